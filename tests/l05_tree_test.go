package tests

import (
	"math"
	"slices"
	"testing"

	"loop.example/g00342/impl"
)

const noWay = int64(-1)

// treeRow tells of one tree who goes, and who would if those ahead were kept; and of each way what the tree is when it was touched.
type treeRow struct {
	ways, tree int64
	order      []int64
	touched    []int64
}

// treeRows are all trees there are, written out by hand, so that they share no rule with the program.
var treeRows = []treeRow{
	{1, 0, []int64{0}, []int64{0}},
	{2, 0, []int64{0, 1}, []int64{1, 0}},
	{2, 1, []int64{1, 0}, []int64{1, 0}},
	{4, 0, []int64{0, 1, 2, 3}, []int64{3, 1, 4, 0}},
	{4, 1, []int64{2, 3, 0, 1}, []int64{3, 1, 4, 0}},
	{4, 2, []int64{1, 0, 2, 3}, []int64{3, 1, 6, 2}},
	{4, 3, []int64{2, 3, 1, 0}, []int64{3, 1, 6, 2}},
	{4, 4, []int64{0, 1, 3, 2}, []int64{7, 5, 4, 0}},
	{4, 5, []int64{3, 2, 0, 1}, []int64{7, 5, 4, 0}},
	{4, 6, []int64{1, 0, 3, 2}, []int64{7, 5, 6, 2}},
	{4, 7, []int64{3, 2, 1, 0}, []int64{7, 5, 6, 2}},
}

// farTrees are no tree, no way and no set, of whatever ways; cut to fewer bits some of them would be small ones.
var farTrees = []int64{math.MinInt64, math.MinInt64 + 1, math.MinInt64 + 7, math.MinInt64 / 2, -1 << 32, -256, -8, -7, -4, -2, -1, 256, 257, 511, 512, 1 << 32, 1<<32 + 1, 1 << 62, math.MaxInt64 - 7, math.MaxInt64 - 1, math.MaxInt64}

// farWays are no number of ways; shifts and products by some of them would panic or wrap round.
var farWays = []int64{math.MinInt64, math.MinInt64 + 1, math.MinInt64 + 4, math.MinInt64 / 2, -1 << 32, -64, -63, -8, -4, -3, -2, -1, 0, 3, 5, 6, 7, 8, 9, 16, 32, 63, 64, 65, 66, 68, 256, 257, 1 << 32, 1<<32 + 4, 1 << 62, math.MaxInt64 - 3, math.MaxInt64 - 1, math.MaxInt64}

func rowsOfWays(ways int64) []treeRow {
	var rows []treeRow
	for _, r := range treeRows {
		if r.ways == ways {
			rows = append(rows, r)
		}
	}
	return rows
}

// firstNotKept goes through the order as it is written out.
func firstNotKept(order []int64, kept int64) int64 {
	bits := bitsOf(kept)
	for _, way := range order {
		if !bits[way] {
			return way
		}
	}
	return noWay
}

func checkTreeOk(t *testing.T, tree int64, ways int64, want bool) {
	t.Helper()
	if got := impl.TreeOk(tree, ways); got != want {
		t.Errorf("TreeOk(%d, %d) = %v, want %v", tree, ways, got, want)
	}
}

func checkTouched(t *testing.T, tree int64, ways int64, way int64, want int64) {
	t.Helper()
	if got := impl.Touched(tree, ways, way); got != want {
		t.Errorf("Touched(%d, %d, %d) = %d, want %d", tree, ways, way, got, want)
	}
}

func checkVictim(t *testing.T, tree int64, ways int64, want int64) {
	t.Helper()
	if got := impl.Victim(tree, ways); got != want {
		t.Errorf("Victim(%d, %d) = %d, want %d", tree, ways, got, want)
	}
}

func checkVictimBut(t *testing.T, tree int64, ways int64, kept int64, want int64) {
	t.Helper()
	if got := impl.VictimBut(tree, ways, kept); got != want {
		t.Errorf("VictimBut(%d, %d, %d) = %d, want %d", tree, ways, kept, got, want)
	}
}

// checkNoTree asks all that is asked of a tree and its ways, of right and of wrong numbers beside them.
func checkNoTree(t *testing.T, tree int64, ways int64) {
	t.Helper()
	checkTreeOk(t, tree, ways, false)
	checkVictim(t, tree, ways, noWay)
	for _, n := range append([]int64{0, 1, 2, 3, 4, 7, 8, 15, 255, ways - 1, ways, tree}, farTrees...) {
		checkTouched(t, tree, ways, n, noWay)
		checkVictimBut(t, tree, ways, n, noWay)
	}
}

func TestTreeOfEveryTree(t *testing.T) {
	for _, r := range treeRows {
		checkTreeOk(t, r.tree, r.ways, true)
		checkVictim(t, r.tree, r.ways, r.order[0])
		for way, want := range r.touched {
			checkTouched(t, r.tree, r.ways, int64(way), want)
		}
	}
}

func TestTreeOfEverySetThatIsKept(t *testing.T) {
	for _, r := range treeRows {
		for kept := int64(0); kept <= 255; kept++ {
			checkVictimBut(t, r.tree, r.ways, kept, firstNotKept(r.order, kept))
		}
	}
}

// Promise 5, its first half: who goes once a way was touched is another one, and of four ways one of the other pair, whatever the tree was.
func TestTreeWhatWasTouchedIsNotVictim(t *testing.T) {
	for _, r := range treeRows {
		for way := range r.ways {
			then := impl.Touched(r.tree, r.ways, way)
			if !impl.TreeOk(then, r.ways) {
				t.Fatalf("Touched(%d, %d, %d) = %d, which is no tree", r.tree, r.ways, way, then)
			}
			goes := impl.Victim(then, r.ways)
			if goes < 0 || goes >= r.ways {
				t.Errorf("Victim(%d, %d) = %d, which is no way", then, r.ways, goes)
			}
			if r.ways > 1 && goes == way {
				t.Errorf("Victim(%d, %d) = %d, which was touched last", then, r.ways, goes)
			}
			if r.ways == 4 && goes/2 == way/2 {
				t.Errorf("Victim(%d, 4) = %d, of the pair whose way %d was touched last", then, goes, way)
			}
		}
	}
}

// turnsOf tells who goes, one after the other, where each one that goes is touched then; and the tree behind it all.
func turnsOf(tree int64, ways int64, turns int64) ([]int64, int64) {
	var went []int64
	for range turns {
		way := impl.Victim(tree, ways)
		went = append(went, way)
		tree = impl.Touched(tree, ways, way)
	}
	return went, tree
}

// Promise 5, its second half: from each tree on all ways go ahead of one that goes again, in the same order round after round.
func TestTreeWaysGoInTurnEachOnce(t *testing.T) {
	for _, r := range treeRows {
		went, then := turnsOf(r.tree, r.ways, 5*r.ways)
		for from := range 4 * r.ways {
			round := slices.Clone(went[from : from+r.ways])
			slices.Sort(round)
			if !slices.Equal(round, []int64{0, 1, 2, 3}[:r.ways]) {
				t.Errorf("of tree %d of %d ways go %v: not each once", r.tree, r.ways, went)
			}
			if went[from] != went[from+r.ways] {
				t.Errorf("of tree %d of %d ways go %v: not in the same order each time", r.tree, r.ways, went)
			}
		}
		if then != r.tree {
			t.Errorf("tree %d of %d ways is %d when each way went five times", r.tree, r.ways, then)
		}
	}
}

// The same turns, written out by hand.
func TestTreeTurns(t *testing.T) {
	rows := []struct {
		ways, tree int64
		turns      []int64
	}{
		{1, 0, []int64{0, 0}},
		{2, 0, []int64{0, 1, 0, 1}},
		{2, 1, []int64{1, 0, 1, 0}},
		{4, 0, []int64{0, 2, 1, 3, 0}},
		{4, 1, []int64{2, 0, 3, 1, 2}},
		{4, 2, []int64{1, 2, 0, 3, 1}},
		{4, 3, []int64{2, 1, 3, 0, 2}},
		{4, 4, []int64{0, 3, 1, 2, 0}},
		{4, 5, []int64{3, 0, 2, 1, 3}},
		{4, 6, []int64{1, 3, 0, 2, 1}},
		{4, 7, []int64{3, 1, 2, 0, 3}},
	}
	for _, r := range rows {
		if went, _ := turnsOf(r.tree, r.ways, int64(len(r.turns))); !slices.Equal(went, r.turns) {
			t.Errorf("of tree %d of %d ways go %v, want %v", r.tree, r.ways, went, r.turns)
		}
	}
}

// Each way goes once where those that went are kept; when all are kept none goes.
func TestTreeWaysThatAreKeptOneAfterTheOther(t *testing.T) {
	for _, r := range treeRows {
		kept := int64(0)
		for _, way := range r.order {
			checkVictimBut(t, r.tree, r.ways, kept, way)
			kept = impl.With(kept, way)
		}
		checkVictimBut(t, r.tree, r.ways, kept, noWay)
	}
}

func TestTreeVictimButIsVictimOrAnotherThatIsNotKept(t *testing.T) {
	for _, r := range treeRows {
		goes := impl.Victim(r.tree, r.ways)
		for kept := int64(0); kept <= 255; kept++ {
			got := impl.VictimBut(r.tree, r.ways, kept)
			if !impl.In(kept, goes) && got != goes {
				t.Errorf("VictimBut(%d, %d, %d) = %d, but Victim is %d", r.tree, r.ways, kept, got, goes)
			}
			if impl.In(kept, got) {
				t.Errorf("VictimBut(%d, %d, %d) = %d, which is kept", r.tree, r.ways, kept, got)
			}
		}
	}
}

// What was touched twice is as touched once.
func TestTreeTouchedAgain(t *testing.T) {
	for _, r := range treeRows {
		for way := range r.ways {
			then := impl.Touched(r.tree, r.ways, way)
			checkTouched(t, then, r.ways, way, then)
		}
	}
}

// The bit that tells about the two ways of the other pair tells the same one still.
func TestTreeTouchedLeavesTheOtherPair(t *testing.T) {
	bitOfOther := []int{2, 2, 1, 1}
	for tree := int64(0); tree <= 7; tree++ {
		for way, bit := range bitOfOther {
			then := impl.Touched(tree, 4, int64(way))
			if bitsOf(then)[bit] != bitsOf(tree)[bit] {
				t.Errorf("Touched(%d, 4, %d) = %d: bit %d is another one", tree, way, then, bit)
			}
		}
	}
}

func TestTreeEdges(t *testing.T) {
	last := map[int64]int64{1: 0, 2: 1, 4: 7}
	for _, ways := range rightSizes {
		checkTreeOk(t, 0, ways, true)
		checkTreeOk(t, last[ways], ways, true)
		checkNoTree(t, -1, ways)
		checkNoTree(t, last[ways]+1, ways)
		for _, tree := range []int64{0, last[ways]} {
			checkTouched(t, tree, ways, -1, noWay)
			checkTouched(t, tree, ways, ways, noWay)
			checkVictimBut(t, tree, ways, -1, noWay)
			checkVictimBut(t, tree, ways, 256, noWay)
			checkVictimBut(t, tree, ways, 255, noWay)
		}
	}
	checkTouched(t, 0, 1, 0, 0)
	checkTouched(t, 0, 2, 0, 1)
	checkTouched(t, 1, 2, 1, 0)
	checkTouched(t, 0, 4, 0, 3)
	checkTouched(t, 7, 4, 3, 2)
	checkVictim(t, 0, 1, 0)
	checkVictim(t, 0, 4, 0)
	checkVictim(t, 7, 4, 3)
	for _, r := range treeRows {
		all := []int64{0, 1, 3, 0, 15}[r.ways]
		checkVictimBut(t, r.tree, r.ways, 0, r.order[0])
		checkVictimBut(t, r.tree, r.ways, all, noWay)
		checkVictimBut(t, r.tree, r.ways, 255-all, r.order[0])
		lastOne := r.order[len(r.order)-1]
		checkVictimBut(t, r.tree, r.ways, impl.Without(255, lastOne), lastOne)
	}
}

// All numbers about the right ones, held against the trees that are written out.
func TestTreeOfAllSmallNumbers(t *testing.T) {
	for ways := int64(-10); ways <= 20; ways++ {
		rows := rowsOfWays(ways)
		for tree := int64(-20); tree <= 300; tree++ {
			is := tree >= 0 && tree < int64(len(rows))
			checkTreeOk(t, tree, ways, is)
			goes := noWay
			if is {
				goes = rows[tree].order[0]
			}
			checkVictim(t, tree, ways, goes)
			for way := int64(-10); way <= 20; way++ {
				then := noWay
				if is && way >= 0 && way < ways {
					then = rows[tree].touched[way]
				}
				checkTouched(t, tree, ways, way, then)
			}
			for kept := int64(-3); kept <= 258; kept++ {
				goes := noWay
				if is && kept >= 0 && kept <= 255 {
					goes = firstNotKept(rows[tree].order, kept)
				}
				checkVictimBut(t, tree, ways, kept, goes)
			}
		}
	}
}

func TestTreeOfWrongTrees(t *testing.T) {
	for _, ways := range rightSizes {
		for _, tree := range farTrees {
			checkNoTree(t, tree, ways)
		}
	}
}

func TestTreeOfWrongWays(t *testing.T) {
	for _, ways := range append(farWays, wrongSizes...) {
		for _, tree := range append([]int64{0, 1, 2, 3, 4, 5, 6, 7, 8}, farTrees...) {
			checkNoTree(t, tree, ways)
		}
	}
}

func TestTreeOfWrongWayOrKept(t *testing.T) {
	for _, r := range treeRows {
		for _, far := range append(farTrees, math.MinInt64+r.ways, math.MaxInt64-r.ways) {
			checkTouched(t, r.tree, r.ways, far, noWay)
			checkVictimBut(t, r.tree, r.ways, far, noWay)
		}
	}
}
