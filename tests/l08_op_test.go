package tests

import (
	"math"
	"testing"

	"loop.example/g00342/impl"
)

// opRow tells of one Kind, written out by hand, whether ops of it write, and whether they have an A and a B.
type opRow struct {
	kind               int64
	writes, hasA, hasB bool
}

var opRows = []opRow{
	{1, false, false, false},
	{2, true, true, false},
	{3, true, true, false},
	{4, true, true, false},
	{5, true, true, true},
}

var rightAddrs = []int64{0, 1, 2, 15, 16, 30, 31}

// Cut to fewer bits some of these would be right Kinds.
var wrongKinds = []int64{math.MinInt64, math.MinInt64 + 1, math.MinInt64 + 3, -1 << 32, -256, -5, -4, -3, -2, -1, 0, 6, 7, 8, 13, 15, 255, 256, 257, 261, 1 << 32, 1<<32 + 1, 1<<32 + 5, math.MaxInt64 - 1, math.MaxInt64}

// Cut to fewer bits some of these would be right addresses.
var wrongAddrs = []int64{math.MinInt64, math.MinInt64 + 1, math.MinInt64 + 31, -1 << 32, -256, -32, -31, -2, -1, 32, 33, 63, 64, 255, 256, 9999, 1 << 32, 1<<32 + 1, math.MaxInt64 - 1, math.MaxInt64}

// notNought are no 0, right ones and wrong ones as a word: none of them can stand where the Kind has no A or no B.
var notNought = append([]int64{1, 2, 7, 31, 9998, 9999}, wrongValues...)

func checkOp(t *testing.T, o impl.Op, ok bool, writes bool) {
	t.Helper()
	if got := impl.OpOk(o); got != ok {
		t.Errorf("OpOk(%+v) = %v, want %v", o, got, ok)
	}
	if got := impl.Writes(o); got != writes {
		t.Errorf("Writes(%+v) = %v, want %v", o, got, writes)
	}
}

func checkDone(t *testing.T, o impl.Op, word int64, then int64, told int64) {
	t.Helper()
	if w, n := impl.Done(o, word); w != then || n != told {
		t.Errorf("Done(%+v, %d) = %d, %d, want %d, %d", o, word, w, n, then, told)
	}
}

// stopIfFailed keeps a long walk from telling the same fault for each word there is.
func stopIfFailed(t *testing.T) {
	t.Helper()
	if t.Failed() {
		t.FailNow()
	}
}

// checkNoOp asks all that is asked of an op, of right and of wrong words beside it.
func checkNoOp(t *testing.T, o impl.Op) {
	t.Helper()
	checkOp(t, o, false, false)
	for _, word := range someValues {
		checkDone(t, o, word, -1, -1)
	}
	for _, word := range wrongValues {
		checkDone(t, o, word, -1, -1)
	}
	checkDone(t, o, o.A, -1, -1)
}

// someOps gives right ops of every Kind, with many addresses and numbers.
func someOps(yield func(opRow, impl.Op) bool) {
	for _, r := range opRows {
		for _, addr := range rightAddrs {
			for _, a := range numbersWhere(r.hasA) {
				for _, b := range numbersWhere(r.hasB) {
					if !yield(r, impl.Op{Kind: r.kind, Addr: addr, A: a, B: b}) {
						return
					}
				}
			}
		}
	}
}

func numbersWhere(has bool) []int64 {
	if has {
		return someValues
	}
	return []int64{0}
}

// saidBy is the chapter's text over again: the word then, and what is told.
func saidBy(o impl.Op, word int64) (int64, int64) {
	then, told := word, word
	switch o.Kind {
	case 2:
		then, told = o.A, 0
	case 3:
		then = word + o.A
		if then > 9999 {
			then -= 10000
		}
	case 4:
		then = o.A
	case 5:
		if o.A == word {
			then = o.B
		}
	}
	return then, told
}

func TestOpKinds(t *testing.T) {
	for want, kind := range []int64{1: impl.OpLoad, 2: impl.OpStore, 3: impl.OpAdd, 4: impl.OpSwap, 5: impl.OpCas} {
		if kind != int64(want) {
			t.Errorf("Kind %d is %d", want, kind)
		}
	}
}

// Promise 8, written out by hand.
func TestOpDone(t *testing.T) {
	rows := []struct {
		kind, a, b, word int64
		then, told       int64
	}{
		{impl.OpLoad, 0, 0, 0, 0, 0},
		{impl.OpLoad, 0, 0, 1, 1, 1},
		{impl.OpLoad, 0, 0, 4711, 4711, 4711},
		{impl.OpLoad, 0, 0, 9999, 9999, 9999},
		{impl.OpStore, 6, 0, 4, 6, 0},
		{impl.OpStore, 0, 0, 4, 0, 0},
		{impl.OpStore, 0, 0, 9999, 0, 0},
		{impl.OpStore, 9999, 0, 0, 9999, 0},
		{impl.OpStore, 4, 0, 4, 4, 0},
		{impl.OpAdd, 5, 0, 9998, 3, 9998},
		{impl.OpAdd, 0, 0, 0, 0, 0},
		{impl.OpAdd, 0, 0, 9999, 9999, 9999},
		{impl.OpAdd, 9999, 0, 0, 9999, 0},
		{impl.OpAdd, 20, 0, 300, 320, 300},
		{impl.OpAdd, 4999, 0, 5000, 9999, 5000},
		{impl.OpAdd, 5000, 0, 5000, 0, 5000},
		{impl.OpAdd, 5001, 0, 5000, 1, 5000},
		{impl.OpAdd, 1, 0, 9999, 0, 9999},
		{impl.OpAdd, 9999, 0, 1, 0, 1},
		{impl.OpAdd, 9999, 0, 9999, 9998, 9999},
		{impl.OpSwap, 6, 0, 4, 6, 4},
		{impl.OpSwap, 0, 0, 4, 0, 4},
		{impl.OpSwap, 9999, 0, 0, 9999, 0},
		{impl.OpSwap, 0, 0, 9999, 0, 9999},
		{impl.OpSwap, 4, 0, 4, 4, 4},
		{impl.OpCas, 3, 7, 3, 7, 3},
		{impl.OpCas, 3, 7, 4, 4, 4},
		{impl.OpCas, 3, 7, 2, 2, 2},
		{impl.OpCas, 3, 7, 7, 7, 7},
		{impl.OpCas, 3, 7, 0, 0, 0},
		{impl.OpCas, 0, 0, 0, 0, 0},
		{impl.OpCas, 0, 0, 1, 1, 1},
		{impl.OpCas, 0, 9999, 0, 9999, 0},
		{impl.OpCas, 0, 9999, 9999, 9999, 9999},
		{impl.OpCas, 9999, 0, 9999, 0, 9999},
		{impl.OpCas, 9999, 0, 9998, 9998, 9998},
		{impl.OpCas, 5, 5, 5, 5, 5},
		{impl.OpCas, 5, 5, 6, 6, 6},
	}
	for _, r := range rows {
		for addr := range int64(32) {
			checkDone(t, impl.Op{Kind: r.kind, Addr: addr, A: r.a, B: r.b}, r.word, r.then, r.told)
		}
	}
}

// Promise 8, of every word there is.
func TestOpDoneOfEveryWord(t *testing.T) {
	for _, o := range someOps {
		if o.Addr != 0 && o.Addr != 31 {
			continue
		}
		for word := range int64(10000) {
			then, told := saidBy(o, word)
			checkDone(t, o, word, then, told)
		}
		stopIfFailed(t)
	}
}

// Promise 8, of every A there is, and of OpCas every B.
func TestOpDoneOfEveryNumber(t *testing.T) {
	for n := range int64(10000) {
		for _, word := range append([]int64{n, 9999 - n, (10000 - n) % 10000, (10001 - n) % 10000}, someValues...) {
			ops := []impl.Op{
				{Kind: 2, Addr: n % 32, A: n}, {Kind: 3, Addr: n % 32, A: n}, {Kind: 4, Addr: n % 32, A: n},
				{Kind: 5, Addr: n % 32, A: n, B: 17}, {Kind: 5, Addr: n % 32, A: word, B: n}, {Kind: 5, Addr: n % 32, A: 17, B: n},
			}
			for _, o := range ops {
				then, told := saidBy(o, word)
				checkDone(t, o, word, then, told)
			}
		}
		stopIfFailed(t)
	}
}

// Promise 8, by the program's own ops, one behind the other: each one is told what the one ahead left behind.
func TestOpDoneOneBehindTheOther(t *testing.T) {
	for _, word := range someValues {
		for _, a := range someValues {
			then, _ := impl.Done(impl.Op{Kind: impl.OpStore, A: a}, word)
			checkDone(t, impl.Op{Kind: impl.OpLoad}, then, a, a)

			then, was := impl.Done(impl.Op{Kind: impl.OpSwap, A: a}, word)
			checkDone(t, impl.Op{Kind: impl.OpSwap, A: was}, then, word, a)

			then, _ = impl.Done(impl.Op{Kind: impl.OpAdd, A: a}, word)
			checkDone(t, impl.Op{Kind: impl.OpAdd, A: (10000 - a) % 10000}, then, word, then)
		}
	}
}

// Promise 8, its second half: a word that was another one than A stays, whatever B is; once it was A the same op does nothing any more, but where B is A.
func TestOpCasOfAnotherWord(t *testing.T) {
	for _, a := range someValues {
		for _, b := range someValues {
			o := impl.Op{Kind: impl.OpCas, Addr: 31, A: a, B: b}
			for word := range int64(10000) {
				if word != a {
					checkDone(t, o, word, word, word)
				}
			}
			checkDone(t, o, a, b, a)
			then, _ := impl.Done(o, a)
			checkDone(t, o, then, b, b)
			stopIfFailed(t)
		}
	}
}

// Many add one each to a word by OpLoad and OpCas, two at a time: of two that read the same one only the first one's is done.
func TestOpCasOfTwoAtATime(t *testing.T) {
	word := int64(9990)
	for n := range int64(40) {
		_, mine := impl.Done(impl.Op{Kind: impl.OpLoad, Addr: 3}, word)
		o := impl.Op{Kind: impl.OpCas, Addr: 3, A: mine, B: (mine + 1) % 10000}
		next := (9990 + n + 1) % 10000
		checkDone(t, o, word, next, mine)
		word, _ = impl.Done(o, word)
		checkDone(t, o, word, next, next)
	}
	if word != 30 {
		t.Errorf("40 times 1 and 9990 is %d, want 30", word)
	}
}

func TestOpOk(t *testing.T) {
	for r, o := range someOps {
		checkOp(t, o, true, r.writes)
	}
	for _, r := range opRows {
		for addr := range int64(32) {
			checkOp(t, impl.Op{Kind: r.kind, Addr: addr}, true, r.writes)
		}
	}
}

// All small fields side by side, and those at the ends of each range, held against the rows.
func TestOpOkOfFieldsAtTheEnds(t *testing.T) {
	ends := []int64{-2, -1, 0, 1, 2, 9998, 9999, 10000, 10001}
	for kind := int64(-3); kind <= 9; kind++ {
		for addr := int64(-3); addr <= 35; addr++ {
			for _, a := range ends {
				for _, b := range ends {
					var ok, writes bool
					for _, r := range opRows {
						if r.kind == kind && addr >= 0 && addr < 32 && fieldRight(a, r.hasA) && fieldRight(b, r.hasB) {
							ok, writes = true, r.writes
						}
					}
					checkOp(t, impl.Op{Kind: kind, Addr: addr, A: a, B: b}, ok, writes)
				}
			}
		}
	}
}

func fieldRight(n int64, has bool) bool {
	if has {
		return n >= 0 && n < 10000
	}
	return n == 0
}

func TestOpZero(t *testing.T) { checkNoOp(t, impl.Op{}) }

// Each field by itself, of an op that is right but for it.
func TestOpOfOneWrongField(t *testing.T) {
	for r, o := range someOps {
		if o.Addr != 0 && o.Addr != 31 {
			continue
		}
		for _, wrong := range oneWrongField(r, o) {
			checkNoOp(t, wrong)
		}
	}
}

func oneWrongField(r opRow, o impl.Op) []impl.Op {
	var wrong []impl.Op
	for _, n := range wrongKinds {
		wrong = append(wrong, impl.Op{Kind: n, Addr: o.Addr, A: o.A, B: o.B})
	}
	for _, n := range wrongAddrs {
		wrong = append(wrong, impl.Op{Kind: o.Kind, Addr: n, A: o.A, B: o.B})
	}
	for _, n := range wrongWhere(r.hasA) {
		wrong = append(wrong, impl.Op{Kind: o.Kind, Addr: o.Addr, A: n, B: o.B})
	}
	for _, n := range wrongWhere(r.hasB) {
		wrong = append(wrong, impl.Op{Kind: o.Kind, Addr: o.Addr, A: o.A, B: n})
	}
	return wrong
}

func wrongWhere(has bool) []int64 {
	if has {
		return wrongValues
	}
	return notNought
}

// Two wrong fields are no better than one: no two make each other right.
func TestOpOfTwoWrongFields(t *testing.T) {
	for _, r := range opRows {
		o := impl.Op{Kind: r.kind, Addr: 7}
		for _, first := range oneWrongField(r, o) {
			for _, second := range oneWrongField(r, o) {
				both := first
				if second.Kind != o.Kind {
					both.Kind = second.Kind
				}
				if second.Addr != o.Addr {
					both.Addr = second.Addr
				}
				if second.A != o.A {
					both.A = second.A
				}
				if second.B != o.B {
					both.B = second.B
				}
				checkOp(t, both, false, false)
				checkDone(t, both, 0, -1, -1)
				checkDone(t, both, 9999, -1, -1)
			}
		}
	}
}

func TestOpOfWrongFieldsAll(t *testing.T) {
	for _, kind := range wrongKinds {
		for _, n := range []int64{math.MinInt64, -1, 10000, math.MaxInt64} {
			checkNoOp(t, impl.Op{Kind: kind, Addr: n, A: n, B: n})
			checkNoOp(t, impl.Op{Kind: n, Addr: kind, A: -n, B: n})
		}
	}
}

// A word that there can't be has no op done on it, not even one that would leave nothing of it.
func TestOpDoneOfWrongWords(t *testing.T) {
	for _, o := range someOps {
		for _, word := range wrongValues {
			checkDone(t, o, word, -1, -1)
		}
	}
}
