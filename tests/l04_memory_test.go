package tests

import (
	"fmt"
	"math"
	"slices"
	"testing"

	"loop.example/g00342/impl"
)

var farLines = []int64{math.MinInt64, math.MinInt64 + 1, math.MinInt64 / 2, -1 << 32, -17, -16, -2, -1, 17, 18, 32, 1 << 32, math.MaxInt64 / 2, math.MaxInt64/2 + 1, math.MaxInt64 - 1, math.MaxInt64}

// unlikeWords gives a memory of which no two words are alike, so that a word at a wrong place is seen.
func unlikeWords(lines int) [][]int64 {
	m := [][]int64{}
	for i := int64(0); i < int64(lines); i++ {
		m = append(m, []int64{1000 + 20*i, 1007 + 20*i})
	}
	return m
}

func copied(m [][]int64) [][]int64 {
	var c [][]int64
	for _, l := range m {
		c = append(c, slices.Clone(l))
	}
	return c
}

func sameLines(a [][]int64, b [][]int64) bool { return slices.EqualFunc(a, b, slices.Equal) }

// withLine gives a copy of the memory in which this line is that one.
func withLine(m [][]int64, line int, l []int64) [][]int64 {
	c := copied(m)
	c[line] = slices.Clone(l)
	return c
}

// byMask tells each mask's answer by itself, so that it shares no rule with the program.
func byMask(old []int64, fresh []int64, mask int64) []int64 {
	return map[int64][]int64{
		0: {old[0], old[1]},
		1: {fresh[0], old[1]},
		2: {old[0], fresh[1]},
		3: {fresh[0], fresh[1]},
	}[mask]
}

// noMemories gives no lines, too many, and from 1 to 16 of which one is no line, at each place.
func noMemories(yield func([][]int64) bool) {
	list := [][][]int64{nil, {}, unlikeWords(17), unlikeWords(18), unlikeWords(32), unlikeWords(400), {nil}, {{}, {}}, make([][]int64, 16), make([][]int64, 17)}
	for bad := range noLines {
		list = append(list, [][]int64{bad}, [][]int64{bad, bad}, withLine(unlikeWords(2), 0, bad), withLine(unlikeWords(2), 1, bad))
	}
	for lines := 1; lines <= 16; lines++ {
		for line := range lines {
			for _, bad := range [][]int64{nil, {5}, {5, 6, 7}, {5, -1}, {10000, 6}, {math.MinInt64, math.MaxInt64}} {
				list = append(list, withLine(unlikeWords(lines), line, bad))
			}
		}
	}
	for _, m := range list {
		if !yield(m) {
			return
		}
	}
}

// roomyMemory gives a copy with spare room behind each line and behind the memory, in which stands a line that is a right one.
func roomyMemory(m [][]int64) [][]int64 {
	var wide [][]int64
	for _, l := range m {
		wide = append(wide, roomy(l))
	}
	wide = append(wide, []int64{77, 78})
	return wide[:len(m)]
}

// untouchedMemory tells whether a memory that was made roomy is still as it was, with all spare room, and has the same lists for its lines.
func untouchedMemory(given [][]int64, lists [][]int64, m [][]int64) bool {
	for i, l := range m {
		if !untouched(given[i], l) || &given[i][:1][0] != &lists[i][:1][0] {
			return false
		}
	}
	return slices.Equal(given[:len(m)+1][len(m)], []int64{77, 78})
}

func checkWrite(t *testing.T, m [][]int64, line int64, l []int64, mask int64, want [][]int64, is bool) {
	t.Helper()
	given, givenLine := roomyMemory(m), roomy(l)
	lists := slices.Clone(given)
	got, done := impl.WriteLine(given, line, givenLine, mask)
	if !sameLines(got, want) || done != is {
		t.Errorf("WriteLine(%v, %d, %v, %d) = %v, %v, want %v, %v", m, line, l, mask, got, done, want, is)
	}
	if !untouchedMemory(given, lists, m) || !untouched(givenLine, l) {
		t.Errorf("WriteLine(%v, %d, %v, %d) wrote into an argument", m, line, l, mask)
	}
}

func checkRead(t *testing.T, m [][]int64, line int64, want []int64) {
	t.Helper()
	given := roomyMemory(m)
	lists := slices.Clone(given)
	if got := impl.ReadLine(given, line); !slices.Equal(got, want) {
		t.Errorf("ReadLine(%v, %d) = %v, want %v", m, line, got, want)
	}
	if !untouchedMemory(given, lists, m) {
		t.Errorf("ReadLine(%v, %d) wrote into its argument", m, line)
	}
}

func checkMemoryOk(t *testing.T, m [][]int64, is bool) {
	t.Helper()
	given := roomyMemory(m)
	lists := slices.Clone(given)
	if got := impl.MemoryOk(given); got != is {
		t.Errorf("MemoryOk(%v) = %v", m, got)
	}
	if !untouchedMemory(given, lists, m) {
		t.Errorf("MemoryOk(%v) wrote into its argument", m)
	}
}

func TestMemoryNewHasAllWordsZero(t *testing.T) {
	for lines := int64(1); lines <= 16; lines++ {
		m := impl.NewMemory(lines)
		if int64(len(m)) != lines || !impl.MemoryOk(m) {
			t.Fatalf("NewMemory(%d) = %v", lines, m)
		}
		for line := range lines {
			if !slices.Equal(m[line], []int64{0, 0}) {
				t.Errorf("NewMemory(%d) has %v at %d", lines, m[line], line)
			}
			checkRead(t, m, line, []int64{0, 0})
		}
	}
}

func TestMemoryNewOfWrongLines(t *testing.T) {
	for _, lines := range append([]int64{0}, farLines...) {
		if got := impl.NewMemory(lines); len(got) != 0 {
			t.Errorf("NewMemory(%d) = %v", lines, got)
		}
	}
}

func TestMemoryOfEverySize(t *testing.T) {
	for lines := 0; lines <= 40; lines++ {
		checkMemoryOk(t, unlikeWords(lines), lines >= 1 && lines <= 16)
	}
	for l := range someLines {
		for line := range 16 {
			checkMemoryOk(t, withLine(unlikeWords(16), line, l), true)
		}
	}
}

// Each line with each mask: what the memory is then is told word by word.
func TestMemoryEachLineWithEachMask(t *testing.T) {
	for lines := 1; lines <= 16; lines++ {
		m := unlikeWords(lines)
		for line := range lines {
			for mask := int64(0); mask <= 3; mask++ {
				for l := range someLines {
					want := withLine(m, line, byMask(m[line], l, mask))
					checkWrite(t, m, int64(line), l, mask, want, true)
				}
			}
		}
	}
}

// Promise 4: what is written is read, and all else stays, by the program's own functions alone.
func TestMemoryWhatIsWrittenIsRead(t *testing.T) {
	l := []int64{3, 4}
	for lines := int64(1); lines <= 16; lines++ {
		m := unlikeWords(int(lines))
		for line := range lines {
			for mask := int64(0); mask <= 3; mask++ {
				got, is := impl.WriteLine(m, line, l, mask)
				if !is || !impl.MemoryOk(got) || len(got) != len(m) {
					t.Fatalf("WriteLine(%v, %d, %v, %d) = %v, %v", m, line, l, mask, got, is)
				}
				for other := range lines {
					want := impl.ReadLine(m, other)
					if other == line {
						want = impl.Masked(want, l, mask)
					}
					checkRead(t, got, other, want)
				}
			}
		}
	}
}

// Many writes one on the other, held against what a plain table of words has then.
func TestMemoryManyWrites(t *testing.T) {
	for lines := int64(1); lines <= 16; lines++ {
		m, want := impl.NewMemory(lines), make([][]int64, lines)
		for i := range want {
			want[i] = []int64{0, 0}
		}
		for step := range int64(300) {
			line, mask := step*7%lines, step*step/3%4
			l := []int64{step * 31 % 10000, step * 97 % 10000}
			want[line] = byMask(want[line], l, mask)
			next, is := impl.WriteLine(m, line, l, mask)
			if !is || !sameLines(next, want) {
				t.Fatalf("step %d: WriteLine(%v, %d, %v, %d) = %v, %v", step, m, line, l, mask, next, is)
			}
			m = next
		}
	}
}

func TestMemoryOrdinary(t *testing.T) {
	m := [][]int64{{1, 2}, {3, 4}, {5, 6}}
	checkMemoryOk(t, m, true)
	checkRead(t, m, 0, []int64{1, 2})
	checkRead(t, m, 1, []int64{3, 4})
	checkRead(t, m, 2, []int64{5, 6})
	checkWrite(t, m, 1, []int64{8, 9}, 1, [][]int64{{1, 2}, {8, 4}, {5, 6}}, true)
	checkWrite(t, m, 1, []int64{8, 9}, 2, [][]int64{{1, 2}, {3, 9}, {5, 6}}, true)
	checkWrite(t, m, 2, []int64{0, 9999}, 3, [][]int64{{1, 2}, {3, 4}, {0, 9999}}, true)
	checkWrite(t, m, 0, []int64{1, 2}, 3, m, true)
}

func TestMemoryEdges(t *testing.T) {
	l := []int64{8, 9}
	for _, lines := range []int{1, 2, 15, 16} {
		m, last := unlikeWords(lines), int64(lines-1)
		checkRead(t, m, -1, nil)
		checkRead(t, m, 0, m[0])
		checkRead(t, m, last, m[last])
		checkRead(t, m, last+1, nil)
		checkWrite(t, m, -1, l, 3, m, false)
		checkWrite(t, m, last+1, l, 3, m, false)
		for _, line := range []int64{0, last} {
			checkWrite(t, m, line, l, -1, m, false)
			checkWrite(t, m, line, l, 0, m, true)
			checkWrite(t, m, line, l, 3, withLine(m, int(line), l), true)
			checkWrite(t, m, line, l, 4, m, false)
		}
	}
	for _, lines := range []int{0, 17} {
		m := unlikeWords(lines)
		checkMemoryOk(t, m, false)
		checkRead(t, m, 0, nil)
		checkWrite(t, m, 0, l, 3, nil, false)
	}
}

func TestMemoryOfWrongLinesAndMasks(t *testing.T) {
	for lines := 1; lines <= 16; lines++ {
		m := unlikeWords(lines)
		for _, line := range append([]int64{int64(lines), int64(lines) + 1}, farLines...) {
			checkRead(t, m, line, nil)
			for _, mask := range []int64{-1, 0, 1, 2, 3, 4} {
				checkWrite(t, m, line, []int64{8, 9}, mask, m, false)
				checkWrite(t, m, line, []int64{8}, mask, m, false)
			}
		}
		for line := range int64(lines) {
			for _, mask := range wrongMasks {
				checkWrite(t, m, line, []int64{8, 9}, mask, m, false)
			}
		}
	}
}

// What is no line is refused of each mask: of mask 0 too, where no word of it would be taken.
func TestMemoryWriteOfNoLine(t *testing.T) {
	m := unlikeWords(3)
	for bad := range noLines {
		for line := int64(-1); line <= 3; line++ {
			for _, mask := range append([]int64{0, 1, 2, 3}, wrongMasks...) {
				checkWrite(t, m, line, bad, mask, m, false)
			}
		}
	}
}

func TestMemoryOfNoMemory(t *testing.T) {
	for m := range noMemories {
		checkMemoryOk(t, m, false)
		for _, line := range append([]int64{0, 1, 15, 16}, farLines...) {
			checkRead(t, m, line, nil)
		}
		for _, line := range []int64{0, 1, 15, 16, -1, math.MinInt64, math.MaxInt64} {
			for _, mask := range []int64{0, 1, 2, 3, -1, 4, math.MinInt64, math.MaxInt64} {
				checkWrite(t, m, line, []int64{8, 9}, mask, nil, false)
				checkWrite(t, m, line, []int64{8, 10000}, mask, nil, false)
				checkWrite(t, m, line, nil, mask, nil, false)
			}
		}
	}
}

// checkLinesApart writes into each line of a memory, and behind it, and looks at the others.
func checkLinesApart(t *testing.T, name string, m [][]int64) {
	t.Helper()
	for i := range m {
		was := copied(m)
		spoil(m[i])
		_ = append(m[i], 99, 99)
		for j := range m {
			if j != i && !slices.Equal(m[j], was[j]) {
				t.Errorf("%s: lines %d and %d of the answer share memory", name, i, j)
			}
		}
		copy(m[i], was[i])
	}
}

// spoilMemory writes into each line, then puts other lists in their places, and into the spare room.
func spoilMemory(m [][]int64) {
	for _, l := range m {
		spoil(l)
	}
	m = m[:cap(m)]
	for i := range m {
		m[i] = []int64{99, 99}
	}
}

// writeCases are writes that are done, and such as are refused by line, by list and by mask.
var writeCases = []struct {
	line int64
	l    []int64
	mask int64
}{
	{0, []int64{8, 9}, 0}, {0, []int64{8, 9}, 1}, {1, []int64{8, 9}, 2}, {2, []int64{8, 9}, 3},
	{-1, []int64{8, 9}, 3}, {3, []int64{8, 9}, 3}, {0, []int64{8}, 3}, {1, []int64{8, 9, 10}, 3}, {2, []int64{8, 10000}, 3}, {2, []int64{8, 9}, 4}, {2, []int64{8, 9}, -1},
}

func TestMemoryWriteAnswersNewMemory(t *testing.T) {
	for _, w := range writeCases {
		name := fmt.Sprintf("WriteLine of %v", w)
		given, l := roomyMemory(unlikeWords(3)), roomy(w.l)
		lists := slices.Clone(given)
		answer, _ := impl.WriteLine(given, w.line, l, w.mask)
		want := copied(answer)
		checkLinesApart(t, name, answer)
		spoilMemory(given)
		for _, list := range append(lists, l) {
			spoil(list)
		}
		if !sameLines(answer, want) {
			t.Errorf("%s: an argument that is changed changes an answer", name)
		}
		given, l = roomyMemory(unlikeWords(3)), roomy(w.l)
		lists = slices.Clone(given)
		answer, _ = impl.WriteLine(given, w.line, l, w.mask)
		spoilMemory(answer)
		if !untouchedMemory(given, lists, unlikeWords(3)) || !untouched(l, w.l) {
			t.Errorf("%s: an answer that is changed changes an argument", name)
		}
	}
}

func TestMemoryReadAnswersNewMemory(t *testing.T) {
	for line := int64(-1); line <= 3; line++ {
		given := roomyMemory(unlikeWords(3))
		lists := slices.Clone(given)
		answer := impl.ReadLine(given, line)
		want := slices.Clone(answer)
		spoil(answer)
		_ = append(answer, 99, 99)
		if !untouchedMemory(given, lists, unlikeWords(3)) {
			t.Errorf("ReadLine of %d: an answer that is changed changes an argument", line)
		}
		answer = impl.ReadLine(given, line)
		spoilMemory(given)
		if !slices.Equal(answer, want) {
			t.Errorf("ReadLine of %d: an argument that is changed changes an answer", line)
		}
	}
}

func TestMemoryNewAnswersNewMemory(t *testing.T) {
	for lines := int64(1); lines <= 16; lines++ {
		first, second := impl.NewMemory(lines), impl.NewMemory(lines)
		checkLinesApart(t, "NewMemory", first)
		spoilMemory(first)
		if want := impl.NewMemory(lines); !sameLines(second, want) || slices.Contains(want[0], 99) {
			t.Errorf("NewMemory(%d): two answers share memory", lines)
		}
	}
}

// Arguments may share memory with each other; what is answered doesn't, and no line is written through another one.
func TestMemoryOfArgumentsThatShare(t *testing.T) {
	l := roomy([]int64{5, 6})
	m := [][]int64{l, l, l}
	answer, is := impl.WriteLine(m, 1, []int64{8, 9}, 3)
	if !is || !sameLines(answer, [][]int64{{5, 6}, {8, 9}, {5, 6}}) {
		t.Errorf("WriteLine of one list three times: %v, %v", answer, is)
	}
	checkLinesApart(t, "WriteLine of one list three times", answer)
	answer, is = impl.WriteLine(m, 2, m[0], 1)
	if !is || !sameLines(answer, m) {
		t.Errorf("WriteLine of a line of its own: %v, %v", answer, is)
	}
	checkLinesApart(t, "WriteLine of a line of its own", answer)
	spoilMemory(answer)
	if !untouched(l, []int64{5, 6}) {
		t.Errorf("WriteLine of a line of its own: the list is %v then", l)
	}
	row := []int64{1, 2, 3, 4, 5, 6}
	answer, is = impl.WriteLine([][]int64{row[:2], row[2:4], row[4:]}, 0, row[4:], 3)
	if !is || !sameLines(answer, [][]int64{{5, 6}, {3, 4}, {5, 6}}) || !slices.Equal(row, []int64{1, 2, 3, 4, 5, 6}) {
		t.Errorf("WriteLine of pieces of one row: %v, %v, and the row %v", answer, is, row)
	}
	checkLinesApart(t, "WriteLine of pieces of one row", answer)
}
