package tests

import (
	"math"
	"slices"
	"testing"

	"loop.example/g00342/impl"
)

var someValues = []int64{0, 1, 2, 3, 17, 255, 4999, 5000, 9998, 9999}

var wrongValues = []int64{math.MinInt64, math.MinInt64 + 1, -1 << 32, -9999, -2, -1, 10000, 10001, 19998, 1 << 32, math.MaxInt64 - 1, math.MaxInt64}

var wrongWords = []int64{math.MinInt64, math.MinInt64 + 1, -1 << 32, -2, -1, 2, 3, 4, 1 << 32, math.MaxInt64 - 1, math.MaxInt64}

var wrongMasks = []int64{math.MinInt64, math.MinInt64 + 1, math.MinInt64 + 3, -1 << 32, -4, -3, -2, -1, 4, 5, 6, 7, 8, 255, 256, 259, 1<<32 + 1, math.MaxInt64 - 1, math.MaxInt64}

// someLines gives each two of the right values side by side.
func someLines(yield func([]int64) bool) {
	for _, a := range someValues {
		for _, b := range someValues {
			if !yield([]int64{a, b}) {
				return
			}
		}
	}
}

// noLines gives lists that are too short, too long, or have a word out of range.
func noLines(yield func([]int64) bool) {
	lists := [][]int64{nil, {}, {0}, {1}, {9999}, {-1}, {10000}, {0, 0, 0}, {1, 2, 3}, {9999, 9999, 9999}, {1, 2, -1}, {1, 2, 10000}, {1, 2, 3, 4}, make([]int64, 100)}
	for _, bad := range wrongValues {
		for _, value := range []int64{0, 1, 9999} {
			lists = append(lists, []int64{bad, value}, []int64{value, bad})
		}
		lists = append(lists, []int64{bad, bad})
	}
	for _, l := range lists {
		if !yield(l) {
			return
		}
	}
}

// roomy gives a copy of the list with spare room behind it, and all of that room's numbers -7.
func roomy(l []int64) []int64 {
	wide := append(slices.Clone(l), -7, -7, -7)
	return wide[:len(l)]
}

// untouched tells whether a list that was made roomy has its words still, and its spare room too.
func untouched(list []int64, l []int64) bool {
	return slices.Equal(list[:len(l)+3], append(slices.Clone(l), -7, -7, -7))
}

func checkPut(t *testing.T, l []int64, word int64, value int64, want []int64, is bool) {
	t.Helper()
	given := roomy(l)
	got, done := impl.Put(given, word, value)
	if !slices.Equal(got, want) || done != is {
		t.Errorf("Put(%v, %d, %d) = %v, %v, want %v, %v", l, word, value, got, done, want, is)
	}
	if !untouched(given, l) {
		t.Errorf("Put(%v, %d, %d) wrote into its argument: %v", l, word, value, given[:len(l)+3])
	}
}

func checkMasked(t *testing.T, old []int64, fresh []int64, mask int64, want []int64) {
	t.Helper()
	givenOld, givenFresh := roomy(old), roomy(fresh)
	got := impl.Masked(givenOld, givenFresh, mask)
	if !slices.Equal(got, want) {
		t.Errorf("Masked(%v, %v, %d) = %v, want %v", old, fresh, mask, got, want)
	}
	if !untouched(givenOld, old) || !untouched(givenFresh, fresh) {
		t.Errorf("Masked(%v, %v, %d) wrote into an argument", old, fresh, mask)
	}
}

func checkWordAt(t *testing.T, l []int64, word int64, want int64) {
	t.Helper()
	if got := impl.WordAt(l, word); got != want {
		t.Errorf("WordAt(%v, %d) = %d, want %d", l, word, got, want)
	}
}

func TestLineOfEveryValue(t *testing.T) {
	for value := int64(0); value <= 9999; value++ {
		for _, other := range []int64{0, 321, 9999} {
			first, second := []int64{value, other}, []int64{other, value}
			if !impl.LineOk(first) || !impl.LineOk(second) {
				t.Fatalf("%v or %v is no line", first, second)
			}
			checkWordAt(t, first, 0, value)
			checkWordAt(t, first, 1, other)
			checkWordAt(t, second, 0, other)
			checkWordAt(t, second, 1, value)
			checkPut(t, []int64{7, other}, 0, value, first, true)
			checkPut(t, []int64{other, 7}, 1, value, second, true)
		}
	}
}

// Promise 3, of Put: what is put is there, the other word as it was, by the program's own functions alone.
func TestLineWhatIsPutIsThere(t *testing.T) {
	for l := range someLines {
		for word := int64(0); word < 2; word++ {
			for _, value := range someValues {
				got, is := impl.Put(l, word, value)
				if !is || !impl.LineOk(got) {
					t.Errorf("Put(%v, %d, %d) = %v, %v", l, word, value, got, is)
				}
				checkWordAt(t, got, word, value)
				checkWordAt(t, got, 1-word, impl.WordAt(l, 1-word))
			}
		}
	}
}

// Promise 3, of Masked: each word is of one of both, told mask by mask.
func TestLineMaskedHasEachWordOfOneOfBoth(t *testing.T) {
	for old := range someLines {
		for fresh := range someLines {
			checkMasked(t, old, fresh, 0, []int64{old[0], old[1]})
			checkMasked(t, old, fresh, 1, []int64{fresh[0], old[1]})
			checkMasked(t, old, fresh, 2, []int64{old[0], fresh[1]})
			checkMasked(t, old, fresh, 3, []int64{fresh[0], fresh[1]})
		}
	}
}

func TestLineOrdinary(t *testing.T) {
	l := []int64{12, 3456}
	if !impl.LineOk(l) {
		t.Errorf("%v is no line", l)
	}
	checkWordAt(t, l, 0, 12)
	checkWordAt(t, l, 1, 3456)
	checkPut(t, l, 0, 78, []int64{78, 3456}, true)
	checkPut(t, l, 1, 78, []int64{12, 78}, true)
	checkPut(t, l, 1, 3456, l, true)
	checkMasked(t, l, []int64{9, 8}, 1, []int64{9, 3456})
}

func TestLineEdges(t *testing.T) {
	if impl.MaxWord != 9999 {
		t.Fatalf("MaxWord is %d", impl.MaxWord)
	}
	rows := []struct {
		l  []int64
		is bool
	}{
		{nil, false},
		{[]int64{}, false},
		{[]int64{5}, false},
		{[]int64{5, 6}, true},
		{[]int64{5, 6, 7}, false},
		{[]int64{0, 0}, true},
		{[]int64{0, impl.MaxWord}, true},
		{[]int64{impl.MaxWord, 0}, true},
		{[]int64{impl.MaxWord, impl.MaxWord}, true},
		{[]int64{-1, 0}, false},
		{[]int64{0, -1}, false},
		{[]int64{impl.MaxWord + 1, 0}, false},
		{[]int64{0, impl.MaxWord + 1}, false},
	}
	for _, r := range rows {
		if got := impl.LineOk(r.l); got != r.is {
			t.Errorf("LineOk(%v) = %v", r.l, got)
		}
	}
	l := []int64{5, 6}
	checkWordAt(t, l, -1, -1)
	checkWordAt(t, l, 2, -1)
	checkPut(t, l, 0, 0, []int64{0, 6}, true)
	checkPut(t, l, 1, impl.MaxWord, []int64{5, 9999}, true)
	checkPut(t, l, 0, -1, l, false)
	checkPut(t, l, 1, impl.MaxWord+1, l, false)
	checkPut(t, l, -1, 0, l, false)
	checkPut(t, l, 2, impl.MaxWord, l, false)
	checkMasked(t, l, []int64{7, 8}, -1, nil)
	checkMasked(t, l, []int64{7, 8}, 0, l)
	checkMasked(t, l, []int64{7, 8}, 3, []int64{7, 8})
	checkMasked(t, l, []int64{7, 8}, 4, nil)
}

func TestLineOfWrongWordsAndValues(t *testing.T) {
	for l := range someLines {
		for _, word := range wrongWords {
			checkWordAt(t, l, word, -1)
			for _, value := range append([]int64{-1, 10000}, someValues...) {
				checkPut(t, l, word, value, l, false)
			}
		}
		for _, value := range wrongValues {
			checkPut(t, l, 0, value, l, false)
			checkPut(t, l, 1, value, l, false)
			checkPut(t, l, math.MaxInt64, value, l, false)
		}
	}
}

func TestLineOfNoLine(t *testing.T) {
	for l := range noLines {
		if impl.LineOk(l) {
			t.Errorf("LineOk(%v)", l)
		}
		for _, word := range append([]int64{0, 1}, wrongWords...) {
			checkWordAt(t, l, word, -1)
			for _, value := range append([]int64{0, 1, 9999}, wrongValues...) {
				checkPut(t, l, word, value, nil, false)
			}
		}
	}
}

func TestLineMaskedOfWrongOnes(t *testing.T) {
	line := []int64{3, 4}
	for bad := range noLines {
		for _, mask := range append([]int64{0, 1, 2, 3}, wrongMasks...) {
			checkMasked(t, bad, line, mask, nil)
			checkMasked(t, line, bad, mask, nil)
			checkMasked(t, bad, bad, mask, nil)
		}
	}
	for old := range someLines {
		for _, mask := range wrongMasks {
			checkMasked(t, old, line, mask, nil)
			checkMasked(t, line, old, mask, nil)
		}
	}
}

// checkOwnMemory writes into the answer, then into the arguments, and looks each time at the others.
func checkOwnMemory(t *testing.T, name string, answer []int64, arguments ...[]int64) {
	t.Helper()
	want := slices.Clone(answer)
	for _, l := range arguments {
		was := slices.Clone(l[:cap(l)])
		spoil(answer)
		if !slices.Equal(l[:cap(l)], was) {
			t.Errorf("%s: an answer that is changed changes an argument", name)
		}
		copy(answer, want)
		spoil(l)
		if !slices.Equal(answer, want) {
			t.Errorf("%s: an argument that is changed changes an answer", name)
		}
	}
}

func TestLineAnswersAreNewMemory(t *testing.T) {
	puts := []struct{ word, value int64 }{{0, 1}, {1, 6}, {-1, 1}, {2, 1}, {0, -1}, {1, 10000}}
	for _, p := range puts {
		for _, l := range [][]int64{{5, 6}, {5}, {5, 6, 7}, {5, -1}} {
			given := roomy(l)
			answer, _ := impl.Put(given, p.word, p.value)
			checkOwnMemory(t, "Put", answer, given)
		}
	}
	for mask := int64(-1); mask <= 4; mask++ {
		old, fresh := roomy([]int64{5, 6}), roomy([]int64{7, 8})
		checkOwnMemory(t, "Masked", impl.Masked(old, fresh, mask), old, fresh)
		short := roomy([]int64{7})
		checkOwnMemory(t, "Masked", impl.Masked(short, short, mask), short)
	}
}

func TestLineMaskedOfOneListTwice(t *testing.T) {
	for mask := int64(0); mask <= 3; mask++ {
		l := roomy([]int64{5, 6})
		answer := impl.Masked(l, l, mask)
		if !slices.Equal(answer, []int64{5, 6}) {
			t.Errorf("Masked of one list twice, by %d: %v", mask, answer)
		}
		checkOwnMemory(t, "Masked", answer, l)
	}
}

func TestLineTwoAnswersShareNothing(t *testing.T) {
	l := []int64{5, 6}
	first, _ := impl.Put(l, 0, 1)
	second, _ := impl.Put(l, 0, 1)
	spoil(first)
	if !slices.Equal(second, []int64{1, 6}) {
		t.Errorf("two answers of Put share memory: %v", second)
	}
	first, second = impl.Masked(l, l, 3), impl.Masked(l, l, 3)
	spoil(first)
	if !slices.Equal(second, []int64{5, 6}) {
		t.Errorf("two answers of Masked share memory: %v", second)
	}
}
