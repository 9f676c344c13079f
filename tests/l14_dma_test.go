package tests

import (
	"fmt"
	"math"
	"slices"
	"strings"
	"testing"

	"loop.example/g00342/impl"
)

// dmaAnswer is all that Asking or Answered answers; of Answered msgs is always nothing.
type dmaAnswer struct {
	dma  impl.Dma
	msgs []impl.Msg
	is   bool
}

func sameDma(a impl.Dma, b impl.Dma) bool {
	return slices.EqualFunc(a.Program, b.Program, sameDesc) && a.At == b.At && a.Waits == b.Waits && sameLines(a.Told, b.Told)
}

func (a dmaAnswer) same(b dmaAnswer) bool {
	return sameDma(a.dma, b.dma) && sameNet(a.msgs, b.msgs) && a.is == b.is
}

func (a dmaAnswer) copied() dmaAnswer { return dmaAnswer{dmaCopy(a.dma), netCopy(a.msgs), a.is} }

func descsCopy(list []impl.Desc) []impl.Desc {
	var fresh []impl.Desc
	for _, d := range list {
		d.Data = slices.Clone(d.Data)
		fresh = append(fresh, d)
	}
	return fresh
}

// dmaCopy shares nothing with the Dma; it is without spare room.
func dmaCopy(d impl.Dma) impl.Dma {
	d.Program, d.Told = descsCopy(d.Program), copied(d.Told)
	return d
}

// roomyDma gives a copy with spare room behind each list of it.
func roomyDma(d impl.Dma) impl.Dma {
	d.Program, d.Told = roomyDescs(d.Program), roomyMemory(d.Told)
	return d
}

// pictureOfDma tells all of a Dma, with the spare room behind each list and where each list stands.
func pictureOfDma(d impl.Dma) string {
	var told strings.Builder
	fmt.Fprintf(&told, "%d %v %p %p", d.At, d.Waits, d.Program, d.Told)
	for _, one := range d.Program[:cap(d.Program)] {
		fmt.Fprintf(&told, " %+v %p %v", one, one.Data, one.Data[:cap(one.Data)])
	}
	for _, l := range d.Told[:cap(d.Told)] {
		fmt.Fprintf(&told, " %p %v", l, l[:cap(l)])
	}
	return told.String()
}

func askingAnswer(d impl.Dma, _ impl.Msg) dmaAnswer {
	dma, msgs, is := impl.Asking(d)
	return dmaAnswer{dma, msgs, is}
}

func answeredAnswer(d impl.Dma, m impl.Msg) dmaAnswer {
	dma, is := impl.Answered(d, m)
	return dmaAnswer{dma: dma, is: is}
}

func checkDmaOk(t *testing.T, d impl.Dma, want bool) {
	t.Helper()
	given := roomyDma(d)
	was := pictureOfDma(given)
	if got := impl.DmaOk(given); got != want {
		t.Errorf("DmaOk(%+v) = %v", d, got)
	}
	if pictureOfDma(given) != was {
		t.Errorf("DmaOk(%+v) wrote into its argument", d)
	}
}

func checkAsking(t *testing.T, d impl.Dma, want dmaAnswer) {
	t.Helper()
	given := roomyDma(d)
	was := pictureOfDma(given)
	if got := askingAnswer(given, impl.Msg{}); !got.same(want) {
		t.Errorf("Asking(%+v) = %+v, want %+v", d, got, want)
	}
	if pictureOfDma(given) != was {
		t.Errorf("Asking(%+v) wrote into its argument", d)
	}
}

func checkAnswered(t *testing.T, d impl.Dma, m impl.Msg, want dmaAnswer) {
	t.Helper()
	given, letter := roomyDma(d), roomyLetter(m)
	was, wasLetter := pictureOfDma(given), pictureOfLetter(letter)
	if got := answeredAnswer(given, letter); !got.same(want) {
		t.Errorf("Answered(%+v, %+v) = %+v, want %+v", d, m, got, want)
	}
	if pictureOfDma(given) != was || pictureOfLetter(letter) != wasLetter {
		t.Errorf("Answered(%+v, %+v) wrote into an argument", d, m)
	}
}

func checkNewDma(t *testing.T, list []impl.Desc, is bool) {
	t.Helper()
	want := impl.Dma{}
	if is {
		want.Program = list
	}
	given := roomyDescs(list)
	got, done := impl.NewDma(given)
	if !sameDma(got, want) || done != is {
		t.Errorf("NewDma(%+v) = %+v, %v", list, got, done)
	}
	if !impl.DmaOk(got) {
		t.Errorf("NewDma(%+v): it is not DmaOk", list)
	}
	spoilDma(got)
	if !untouchedDescs(given, list) {
		t.Errorf("NewDma(%+v) wrote into its list, or shares it", list)
	}
}

func stillDma(d impl.Dma) dmaAnswer { return dmaAnswer{dma: d} }

// rightDesc is chapter 11's text over again.
func rightDesc(d impl.Desc) bool {
	if !d.Write {
		return d.Mask == 0 && len(d.Data) == 0
	}
	return slices.Contains([]int64{1, 2, 3}, d.Mask) && rightWords(d.Data)
}

// dmaRight is the chapter's text over again.
func dmaRight(d impl.Dma) bool {
	if len(d.Program) > 30 || d.At < 0 || d.At > int64(len(d.Program)) || int64(len(d.Told)) != d.At {
		return false
	}
	for i, one := range d.Program {
		if !rightDesc(one) {
			return false
		}
		if int64(i) >= d.At {
			continue
		}
		if one.Write && len(d.Told[i]) != 0 || !one.Write && !rightWords(d.Told[i]) {
			return false
		}
	}
	return !d.Waits || d.At < int64(len(d.Program))
}

// dmaAsks is the chapter's text of Asking over again, of a right Dma.
func dmaAsks(d impl.Dma) dmaAnswer {
	if d.Waits || d.At == int64(len(d.Program)) {
		return stillDma(d)
	}
	fresh := dmaCopy(d)
	fresh.Waits = true
	one := d.Program[d.At]
	if one.Write {
		return dmaAnswer{fresh, []impl.Msg{setTo(one.Line, one.Mask, one.Data...)}, true}
	}
	return dmaAnswer{fresh, []impl.Msg{snapTo(one.Line)}, true}
}

// dmaAnswers is the chapter's text of Answered over again, of a right Dma.
func dmaAnswers(d impl.Dma, m impl.Msg) dmaAnswer {
	if !d.Waits || m.Kind != 13 {
		return stillDma(d)
	}
	one := d.Program[d.At]
	if m.Line != one.Line || !one.Write && !rightWords(m.Data) {
		return stillDma(d)
	}
	fresh := dmaCopy(d)
	fresh.At, fresh.Waits = d.At+1, false
	if one.Write {
		fresh.Told = append(fresh.Told, nil)
	} else {
		fresh.Told = append(fresh.Told, slices.Clone(m.Data))
	}
	return dmaAnswer{dma: fresh, is: true}
}

func snapTo(line int64) impl.Msg { return impl.Msg{Road: 0, From: 5, To: 4, Kind: 4, Line: line} }

func setTo(line int64, mask int64, data ...int64) impl.Msg {
	return impl.Msg{Road: 0, From: 5, To: 4, Kind: 5, Line: line, Data: data, Flag: mask}
}

// checkDmaStays holds all that promise 14 says of one step: a right Dma stays right, at most one more is done, and what was told stays.
func checkDmaStays(t *testing.T, before impl.Dma, after dmaAnswer) {
	t.Helper()
	if !impl.DmaOk(after.dma) || !dmaRight(after.dma) {
		t.Errorf("of %+v came a Dma that is not right: %+v", before, after.dma)
	}
	if !after.is && (!sameDma(before, after.dma) || len(after.msgs) != 0) {
		t.Errorf("%+v does nothing, and is %+v", before, after)
	}
	if after.is && after.dma.Waits == before.Waits {
		t.Errorf("%+v asks twice, or is answered twice: %+v", before, after)
	}
	if more := after.dma.At - before.At; more < 0 || more > 1 || !sameLines(after.dma.Told[:before.At], before.Told) {
		t.Errorf("%+v does not go on one by one: %+v", before, after)
	}
}

func checkDmaAsks(t *testing.T, d impl.Dma) dmaAnswer {
	t.Helper()
	want := dmaAsks(d)
	checkAsking(t, d, want)
	checkDmaStays(t, d, want)
	return want
}

func checkDmaAnswers(t *testing.T, d impl.Dma, m impl.Msg) dmaAnswer {
	t.Helper()
	want := dmaAnswers(d, m)
	checkAnswered(t, d, m, want)
	checkDmaStays(t, d, want)
	return want
}

// manyDescs is a list of this length of right ones, reads and writes of unlike lines, masks and words.
func manyDescs(length int) []impl.Desc {
	var list []impl.Desc
	for i := range int64(length) {
		if i%3 == 1 {
			list = append(list, writeOf(5*i%16, 1+i/3%3, 100+i, 200+i))
		} else {
			list = append(list, readOf(7*i%16))
		}
	}
	return list
}

func onlyReads(length int) []impl.Desc { return slices.Repeat([]impl.Desc{readOf(3)}, length) }

func onlyWrites(length int) []impl.Desc {
	return slices.Repeat([]impl.Desc{writeOf(4, 2, 8, 9)}, length)
}

// toldOf is what may have been told of the first ones of these Descs.
func toldOf(list []impl.Desc, count int) [][]int64 {
	var told [][]int64
	for i, one := range list[:count] {
		if one.Write {
			told = append(told, nil)
		} else {
			told = append(told, []int64{int64(i), 9999 - int64(i)})
		}
	}
	return told
}

// dmaAt is the Dma that has done this many of these Descs.
func dmaAt(list []impl.Desc, at int, waits bool) impl.Dma {
	return impl.Dma{Program: descsCopy(list), At: int64(at), Waits: waits, Told: toldOf(list, at)}
}

// someDmas gives right ones of several lengths, at each place, waiting and not.
func someDmas(yield func(impl.Dma) bool) {
	for _, length := range []int{0, 1, 2, 3, 7, 29, 30} {
		for _, list := range [][]impl.Desc{manyDescs(length), onlyReads(length), onlyWrites(length)} {
			for at := range length + 1 {
				if !yield(dmaAt(list, at, false)) || at < length && !yield(dmaAt(list, at, true)) {
					return
				}
			}
		}
	}
}

// fewDmas gives those of one short list, for all that need not be asked of every one.
func fewDmas(yield func(impl.Dma) bool) {
	list := []impl.Desc{readOf(2), writeOf(15, 3, 61, 62), readOf(0), writeOf(1, 1, 0, 9999)}
	for at := range len(list) + 1 {
		if !yield(dmaAt(list, at, false)) || at < len(list) && !yield(dmaAt(list, at, true)) {
			return
		}
	}
}

// wrongDescs are of each reason some; each would be right with that one mended.
func wrongDescs() []impl.Desc {
	list := slices.Clone(gradedDescs(16)[isWrong])
	for _, mask := range append([]int64{0}, wrongMasks...) {
		list = append(list, writeOf(2, mask, 5, 6))
		if mask != 0 {
			list = append(list, impl.Desc{Line: 2, Mask: mask})
		}
	}
	for bad := range noLines {
		list = append(list, writeOf(2, 1, bad...))
		if len(bad) != 0 {
			list = append(list, impl.Desc{Line: 2, Data: bad})
		}
	}
	return list
}

// checkNoDma asks all of a Dma that is not right.
func checkNoDma(t *testing.T, d impl.Dma) {
	t.Helper()
	checkDmaOk(t, d, false)
	checkAsking(t, d, dmaAnswer{})
	for _, m := range []impl.Msg{{}, toldTo(2, 5, 6), toldTo(2), toldTo(3, 5, 6), {Kind: 12, Line: 2}} {
		checkAnswered(t, d, m, dmaAnswer{})
	}
	if d.At >= 0 && d.At < int64(len(d.Program)) {
		checkAnswered(t, d, toldTo(d.Program[d.At].Line, 5, 6), dmaAnswer{})
	}
}

func TestDmaNewOfEveryLength(t *testing.T) {
	for length := range 70 {
		for _, list := range [][]impl.Desc{manyDescs(length), onlyReads(length), onlyWrites(length)} {
			checkNewDma(t, list, length <= 30)
		}
	}
	checkNewDma(t, manyDescs(3000), false)
	if d, is := impl.NewDma(nil); !is || !impl.DmaOk(d) || !sameDma(d, impl.Dma{}) {
		t.Errorf("NewDma(nil) = %+v, %v", d, is)
	}
	if d, is := impl.NewDma([]impl.Desc{}); !is || !sameDma(d, impl.Dma{}) {
		t.Errorf("NewDma of no Desc = %+v, %v", d, is)
	}
}

func TestDmaNewOfWrongDescs(t *testing.T) {
	for _, bad := range wrongDescs() {
		for _, length := range []int{1, 2, 5, 30, 31} {
			for at := range length {
				list := manyDescs(length)
				list[at] = bad
				checkNewDma(t, list, false)
			}
		}
		stopIfFailed(t)
	}
}

// What is not right is so also behind the place, where it is done, and while it waits.
func TestDmaOfWrongDescs(t *testing.T) {
	for _, bad := range wrongDescs() {
		for _, length := range []int{1, 3, 30} {
			for _, wrong := range []int{0, length / 2, length - 1} {
				for _, at := range []int{0, length / 2, length - 1, length} {
					d := dmaAt(manyDescs(length), at, at < length && (wrong+at)%2 == 0)
					d.Program[wrong] = bad
					if wrong < at {
						d.Told[wrong] = toldOf([]impl.Desc{bad}, 1)[0]
					}
					checkNoDma(t, d)
				}
			}
		}
		stopIfFailed(t)
	}
}

// Chapter 11 asks nothing of a Desc's Line but the Lines of a layout, and a Dma has no layout.
func TestDmaOfEveryLine(t *testing.T) {
	for _, line := range slices.Concat([]int64{0, 1, 2, 14, 15, 16}, noLineNumbers) {
		list := []impl.Desc{readOf(line), writeOf(line, 3, 5, 6)}
		checkNewDma(t, list, true)
		for at := range 3 {
			d := dmaAt(list, at, false)
			checkDmaOk(t, d, true)
			checkDmaAsks(t, d)
			if at < 2 {
				checkDmaAnswers(t, dmaAt(list, at, true), toldTo(line, 7, 8))
				checkDmaAnswers(t, dmaAt(list, at, true), toldTo(line^1, 7, 8))
			}
		}
	}
}

func TestDmaOfTooManyDescs(t *testing.T) {
	for _, length := range []int{31, 32, 60, 61, 1000} {
		for _, list := range [][]impl.Desc{manyDescs(length), onlyReads(length), onlyWrites(length)} {
			for _, at := range []int{0, 1, 29, 30, 31, length - 1, length} {
				checkNoDma(t, dmaAt(list, at, false))
				if at < length {
					checkNoDma(t, dmaAt(list, at, true))
				}
			}
		}
		stopIfFailed(t)
	}
}

func TestDmaOfEveryAt(t *testing.T) {
	for _, length := range []int{0, 1, 2, 7, 29, 30} {
		list := manyDescs(length)
		for at := range length + 1 {
			checkDmaOk(t, dmaAt(list, at, false), true)
			if at < length {
				checkDmaOk(t, dmaAt(list, at, true), true)
			}
		}
		for _, at := range append([]int64{-31, -30, 31, 33, int64(length) + 1, int64(length) + 2, -int64(length) - 1}, farNumbers...) {
			for _, count := range []int{0, min(1, length), length} {
				for _, waits := range []bool{false, true} {
					checkNoDma(t, impl.Dma{Program: list, At: at, Waits: waits, Told: toldOf(list, count)})
				}
			}
		}
		longer := slices.Concat(list, onlyReads(2))
		for at := length + 1; at <= length+2; at++ {
			checkNoDma(t, impl.Dma{Program: list, At: int64(at), Told: toldOf(longer, at)})
		}
		stopIfFailed(t)
	}
}

func TestDmaWaitsForADesc(t *testing.T) {
	for length := range 31 {
		for _, list := range [][]impl.Desc{manyDescs(length), onlyReads(length), onlyWrites(length)} {
			checkNoDma(t, dmaAt(list, length, true))
			checkDmaOk(t, dmaAt(list, length, false), true)
			if length > 0 {
				checkDmaOk(t, dmaAt(list, length-1, true), true)
			}
		}
	}
}

// As many lines are told as At, no fewer and no more, whatever stands in those.
func TestDmaOfEveryCountTold(t *testing.T) {
	for _, length := range []int{0, 1, 4, 30} {
		for _, list := range [][]impl.Desc{manyDescs(length), onlyReads(length), onlyWrites(length)} {
			for at := range length + 1 {
				for _, count := range []int{0, 1, at - 2, at - 1, at, at + 1, at + 2, length, length + 1, 31, 100} {
					if count < 0 || count == at {
						continue
					}
					told := toldOf(slices.Concat(list, onlyReads(101)), count)
					checkNoDma(t, impl.Dma{Program: list, At: int64(at), Told: told})
					checkNoDma(t, impl.Dma{Program: list, At: int64(at), Waits: true, Told: told})
				}
			}
			stopIfFailed(t)
		}
	}
}

func TestDmaOfWhatIsTold(t *testing.T) {
	for _, length := range []int{1, 2, 5, 30} {
		list := manyDescs(length)
		for place, one := range list {
			for bad := range noLines {
				d := dmaAt(list, length, false)
				d.Told[place] = bad
				checkDmaOk(t, d, one.Write && len(bad) == 0)
				checkDmaOk(t, dmaRest(d), one.Write && len(bad) == 0)
			}
			for words := range someLines {
				d := dmaAt(list, length, false)
				d.Told[place] = words
				checkDmaOk(t, d, !one.Write)
			}
		}
		stopIfFailed(t)
	}
}

// dmaRest is a Dma at its end with one read more, which it waits for.
func dmaRest(d impl.Dma) impl.Dma {
	d = dmaCopy(d)
	if len(d.Program) < 30 {
		d.Program, d.Waits = append(d.Program, readOf(1)), true
	}
	return d
}

func TestDmaOfWrongTold(t *testing.T) {
	rows := []impl.Dma{
		{Program: []impl.Desc{readOf(2)}, At: 1, Told: [][]int64{nil}},
		{Program: []impl.Desc{readOf(2)}, At: 1, Told: [][]int64{{}}},
		{Program: []impl.Desc{readOf(2)}, At: 1, Told: [][]int64{{5}}},
		{Program: []impl.Desc{readOf(2)}, At: 1, Told: [][]int64{{5, 6, 7}}},
		{Program: []impl.Desc{readOf(2)}, At: 1, Told: [][]int64{{5, 10000}}},
		{Program: []impl.Desc{readOf(2)}, At: 1, Told: [][]int64{{-1, 6}}},
		{Program: []impl.Desc{readOf(2)}, At: 1, Told: [][]int64{{math.MaxInt64, math.MinInt64}}},
		{Program: []impl.Desc{writeOf(2, 1, 5, 6)}, At: 1, Told: [][]int64{{5, 6}}},
		{Program: []impl.Desc{writeOf(2, 1, 5, 6)}, At: 1, Told: [][]int64{{0, 0}}},
		{Program: []impl.Desc{writeOf(2, 1, 5, 6)}, At: 1, Told: [][]int64{{5}}},
		{Program: []impl.Desc{readOf(2), writeOf(2, 1, 5, 6)}, At: 2, Told: [][]int64{{}, {5, 6}}},
		{Program: []impl.Desc{readOf(2), writeOf(2, 1, 5, 6)}, At: 2, Told: [][]int64{{5, 6}, {5, 6}}},
		{Program: []impl.Desc{readOf(2), writeOf(2, 1, 5, 6), readOf(2)}, At: 2, Told: [][]int64{{}, {}}},
		{Program: []impl.Desc{readOf(2), writeOf(2, 1, 5, 6), readOf(2)}, At: 2, Waits: true, Told: [][]int64{{1, 2}, {3, 4}}},
	}
	for _, d := range rows {
		checkNoDma(t, d)
	}
}

// The zero Dma is right: it has nothing to do.
func TestDmaOfNothing(t *testing.T) {
	for _, d := range []impl.Dma{{}, {Program: []impl.Desc{}, Told: [][]int64{}}} {
		checkDmaOk(t, d, true)
		checkAsking(t, d, stillDma(impl.Dma{}))
		for kind := int64(-1); kind <= 16; kind++ {
			checkAnswered(t, d, impl.Msg{Kind: kind}, stillDma(impl.Dma{}))
			checkAnswered(t, d, impl.Msg{Kind: kind, Data: []int64{5, 6}}, stillDma(impl.Dma{}))
		}
		if !impl.DmaOk(d) {
			t.Errorf("DmaOk(%+v) is false", d)
		}
		if got := answeredAnswer(d, impl.Msg{}); !got.same(dmaAnswer{}) {
			t.Errorf("Answered of nothing: %+v", got)
		}
		if got := askingAnswer(d, impl.Msg{}); !got.same(dmaAnswer{}) {
			t.Errorf("Asking of nothing: %+v", got)
		}
	}
	for _, d := range []impl.Dma{{Waits: true}, {At: 1}, {At: -1}, {At: 1, Waits: true}, {Told: [][]int64{{}}}, {Told: [][]int64{nil}}, {At: 1, Told: [][]int64{nil}}, {At: 1, Told: [][]int64{{5, 6}}}, {At: math.MaxInt64}, {At: math.MinInt64, Waits: true}} {
		checkNoDma(t, d)
	}
}

// Lists that are nil are such as are empty, at every place of a Dma and of a letter.
func TestDmaOfListsThatAreNil(t *testing.T) {
	for _, none := range [][]int64{nil, {}} {
		read, write := impl.Desc{Line: 1, Data: none}, writeOf(1, 3, 5, 6)
		d := impl.Dma{Program: []impl.Desc{read, write, read}, At: 2, Waits: true, Told: [][]int64{{1, 2}, none}}
		checkDmaOk(t, d, true)
		if !impl.DmaOk(d) {
			t.Errorf("DmaOk(%+v) is false", d)
		}
		got := answeredAnswer(d, impl.Msg{Kind: impl.MsTold, Line: 1, Data: none})
		if !got.same(stillDma(d)) {
			t.Errorf("a read is answered without Data: %+v", got)
		}
		d = impl.Dma{Program: []impl.Desc{write}, Waits: true}
		got = answeredAnswer(d, impl.Msg{Kind: impl.MsTold, Line: 1, Data: none})
		if want := (impl.Dma{Program: d.Program, At: 1, Told: [][]int64{none}}); !got.same(dmaAnswer{dma: want, is: true}) {
			t.Errorf("a write is answered: %+v", got)
		}
	}
}

func TestDmaAskingByHand(t *testing.T) {
	list := []impl.Desc{readOf(2), writeOf(1, 2, 7, 8), writeOf(15, 3, 0, 9999), readOf(0)}
	rows := []struct {
		told [][]int64
		m    impl.Msg
	}{
		{nil, impl.Msg{Road: 0, From: impl.Port, To: impl.Home, Kind: impl.MsSnap, Line: 2}},
		{[][]int64{{5, 6}}, impl.Msg{Road: 0, From: impl.Port, To: impl.Home, Kind: impl.MsSet, Line: 1, Data: []int64{7, 8}, Flag: 2}},
		{[][]int64{{5, 6}, {}}, impl.Msg{Road: 0, From: impl.Port, To: impl.Home, Kind: impl.MsSet, Line: 15, Data: []int64{0, 9999}, Flag: 3}},
		{[][]int64{{5, 6}, {}, {}}, impl.Msg{Road: 0, From: impl.Port, To: impl.Home, Kind: impl.MsSnap, Line: 0}},
	}
	for _, r := range rows {
		d := impl.Dma{Program: list, At: int64(len(r.told)), Told: r.told}
		then := d
		then.Waits = true
		checkAsking(t, d, dmaAnswer{then, []impl.Msg{r.m}, true})
		checkAsking(t, then, dmaAnswer{then, nil, false})
	}
	end := impl.Dma{Program: list, At: 4, Told: [][]int64{{5, 6}, {}, {}, {9999, 0}}}
	checkAsking(t, end, dmaAnswer{end, nil, false})
	checkNoDma(t, impl.Dma{Program: list, At: 4, Waits: true, Told: end.Told})
}

func TestDmaAskingOfEveryDma(t *testing.T) {
	asked := 0
	for d := range someDmas {
		checkDmaOk(t, d, true)
		got := checkDmaAsks(t, d)
		if got.is {
			asked++
			if len(got.msgs) != 1 || !impl.NetOk(got.msgs) {
				t.Errorf("Asking(%+v) sends %+v", d, got.msgs)
			}
			checkDmaAsks(t, got.dma)
		}
		stopIfFailed(t)
	}
	if asked < 100 {
		t.Fatalf("only %d asked", asked)
	}
}

// Each mask, each line and many words come to the letter as they stand in the Desc.
func TestDmaAskingOfEveryWrite(t *testing.T) {
	for line := range int64(16) {
		checkDmaAsks(t, dmaAt([]impl.Desc{readOf(line)}, 0, false))
		for mask := int64(1); mask <= 3; mask++ {
			for words := range someLines {
				checkDmaAsks(t, dmaAt([]impl.Desc{readOf(3), writeOf(line, mask, words...), readOf(4)}, 1, false))
			}
		}
		stopIfFailed(t)
	}
}

func TestDmaAnsweredByHand(t *testing.T) {
	list := []impl.Desc{readOf(2), writeOf(1, 2, 7, 8), readOf(2)}
	rows := []struct {
		told [][]int64
		m    impl.Msg
		then []int64
		is   bool
	}{
		{nil, toldTo(2, 5, 6), []int64{5, 6}, true},
		{nil, toldTo(2, 0, 0), []int64{0, 0}, true},
		{nil, toldTo(2, 9999, 9999), []int64{9999, 9999}, true},
		{nil, impl.Msg{Kind: impl.MsTold, Line: 2, Data: []int64{5, 6}}, []int64{5, 6}, true},
		{nil, toldTo(2), nil, false},
		{nil, toldTo(2, 5), nil, false},
		{nil, toldTo(2, 5, 6, 7), nil, false},
		{nil, toldTo(2, 5, 10000), nil, false},
		{nil, toldTo(2, -1, 6), nil, false},
		{nil, toldTo(1, 5, 6), nil, false},
		{nil, toldTo(1), nil, false},
		{nil, toldTo(3, 5, 6), nil, false},
		{nil, toldTo(-2, 5, 6), nil, false},
		{nil, toldTo(18, 5, 6), nil, false},
		{nil, impl.Msg{Kind: impl.MsData, Line: 2, Data: []int64{5, 6}}, nil, false},
		{nil, impl.Msg{Kind: impl.MsGrant, Line: 2, Data: []int64{5, 6}}, nil, false},
		{nil, impl.Msg{Line: 2, Data: []int64{5, 6}}, nil, false},
		{[][]int64{{5, 6}}, toldTo(1), []int64{}, true},
		{[][]int64{{5, 6}}, toldTo(1, 3, 4), []int64{}, true},
		{[][]int64{{5, 6}}, toldTo(2), nil, false},
		{[][]int64{{5, 6}}, toldTo(2, 3, 4), nil, false},
		{[][]int64{{5, 6}}, impl.Msg{Kind: impl.MsPutAck, Line: 1}, nil, false},
		{[][]int64{{5, 6}, {}}, toldTo(2, 3, 4), []int64{3, 4}, true},
		{[][]int64{{5, 6}, {}}, toldTo(1, 3, 4), nil, false},
		{[][]int64{{5, 6}, {}}, toldTo(2), nil, false},
	}
	for _, r := range rows {
		d := impl.Dma{Program: list, At: int64(len(r.told)), Waits: true, Told: r.told}
		want := d
		if r.is {
			want.At, want.Waits, want.Told = d.At+1, false, append(copied(r.told), r.then)
		}
		checkAnswered(t, d, r.m, dmaAnswer{dma: want, is: r.is})
		d.Waits = false
		checkAnswered(t, d, r.m, stillDma(d))
	}
}

// dmaLetters gives letters of every Kind and many beside, of this line and of another one, with right, wrong and no Data.
func dmaLetters(line int64) []impl.Msg {
	var list []impl.Msg
	for _, kind := range slices.Concat([]int64{1, 2, 3, 4, 5, 6, 7, 8, 9, 10, 11, 12, 13, 14, 15}, []int64{-13, 0, 16, 29, 256 + 13, 1<<32 + 13, math.MinInt64 + 13, math.MinInt64, math.MaxInt64}) {
		for _, of := range []int64{line, line + 1, line - 1, line + 16, -line - 1, math.MaxInt64, math.MinInt64} {
			for _, data := range [][]int64{nil, {5, 6}, {0, 0}, {9999, 9999}, {5}, {5, 6, 7}, {-1, 0}, {0, 10000}} {
				list = append(list, impl.Msg{Road: 2, From: 4, To: 5, Kind: kind, Line: of, Data: data})
			}
		}
	}
	return list
}

// Promise 14: of all letters only the one that it waits for is taken.
func TestDmaAnsweredOfEveryKind(t *testing.T) {
	seen := map[bool]int{}
	for d := range fewDmas {
		for _, line := range []int64{0, 1, 2, 14, 15} {
			for _, m := range dmaLetters(line) {
				seen[checkDmaAnswers(t, d, m).is]++
			}
			stopIfFailed(t)
		}
	}
	if seen[true] == 0 || seen[false] < 1000 {
		t.Fatalf("looked at %v", seen)
	}
}

func TestDmaAnsweredOfEveryDma(t *testing.T) {
	taken := 0
	for d := range someDmas {
		line := int64(3)
		if d.At < int64(len(d.Program)) {
			line = d.Program[d.At].Line
		}
		for _, m := range []impl.Msg{toldTo(line, 71, 72), toldTo(line), toldTo(line, 71), toldTo(line+1, 71, 72), toldTo(line + 1), {Kind: 8, Line: line, Data: []int64{71, 72}}} {
			if checkDmaAnswers(t, d, m).is {
				taken++
			}
		}
		stopIfFailed(t)
	}
	if taken < 150 {
		t.Fatalf("only %d were taken", taken)
	}
}

// Whatever Data is, of a read it is told where it is a line, and of a write it is never told.
func TestDmaAnsweredOfEveryData(t *testing.T) {
	list := []impl.Desc{readOf(6), writeOf(6, 1, 3, 4)}
	for words := range someLines {
		checkAnswered(t, dmaAt(list, 0, true), toldTo(6, words...), dmaAnswer{dma: impl.Dma{Program: list, At: 1, Told: [][]int64{words}}, is: true})
		checkAnswered(t, dmaAt(list, 1, true), toldTo(6, words...), dmaAnswer{dma: impl.Dma{Program: list, At: 2, Told: [][]int64{{0, 9999}, nil}}, is: true})
	}
	for bad := range noLines {
		checkAnswered(t, dmaAt(list, 0, true), toldTo(6, bad...), stillDma(dmaAt(list, 0, true)))
		checkDmaAnswers(t, dmaAt(list, 1, true), toldTo(6, bad...))
	}
}

// Road, From, To and Flag are not asked: the chapter names Kind, Line and Data alone.
func TestDmaAnsweredWhateverElse(t *testing.T) {
	for _, f := range fieldsOfLetter() {
		for _, n := range append([]int64{0, 1, 2, 5, 15, 16}, farFields...) {
			for d := range fewDmas {
				m := toldTo(2, 5, 6)
				if d.Waits {
					m.Line = d.Program[d.At].Line
				}
				f.set(&m, n)
				checkDmaAnswers(t, d, m)
			}
		}
		stopIfFailed(t)
	}
}

// Promise 14: whatever is asked and answered meanwhile, each Desc is asked for once, in its order, and only when the one ahead of it was answered.
func TestDmaDoesOneAfterTheOther(t *testing.T) {
	for _, length := range []int{0, 1, 2, 3, 8, 29, 30} {
		for _, list := range [][]impl.Desc{manyDescs(length), onlyReads(length), onlyWrites(length)} {
			d, is := impl.NewDma(list)
			if !is {
				t.Fatalf("NewDma(%+v) is false", list)
			}
			for i, one := range list {
				got := checkDmaAsks(t, d)
				if d = got.dma; !got.is || len(got.msgs) != 1 || got.msgs[0].Line != one.Line || d.At != int64(i) {
					t.Fatalf("%+v asks by %+v for %+v", d, got, one)
				}
				if again := checkDmaAsks(t, d); again.is {
					t.Fatalf("%+v asks again", d)
				}
				if other := checkDmaAnswers(t, d, toldTo(one.Line+1, 5, 6)); other.is {
					t.Fatalf("%+v takes what it does not wait for", d)
				}
				told := checkDmaAnswers(t, d, toldTo(one.Line, int64(i), int64(i)+1))
				if d = told.dma; !told.is || d.At != int64(i)+1 {
					t.Fatalf("%+v is not answered: %+v", one, told)
				}
				if again := checkDmaAnswers(t, d, toldTo(one.Line, 8, 8)); again.is {
					t.Fatalf("%+v is answered twice", d)
				}
				stopIfFailed(t)
			}
			checkAllTold(t, list, d)
		}
	}
}

func checkAllTold(t *testing.T, list []impl.Desc, d impl.Dma) {
	t.Helper()
	if got := checkDmaAsks(t, d); got.is || d.At != int64(len(list)) || d.Waits || len(d.Told) != len(list) {
		t.Fatalf("%+v is not at its end", d)
	}
	for i, one := range list {
		if one.Write && len(d.Told[i]) != 0 || !one.Write && !slices.Equal(d.Told[i], []int64{int64(i), int64(i) + 1}) {
			t.Errorf("of %+v is told %v", one, d.Told[i])
		}
	}
}

// mixedTold is some letter that may come to a Dma, told by a number; about one in three is one that it waits for.
func mixedTold(d impl.Dma, n int64) impl.Msg {
	m := impl.Msg{Road: n % 3, From: 4, To: 5, Kind: []int64{13, 13, 13, 12, 8, 4}[n/8%6], Line: n / 64 % 16, Flag: n % 4}
	if n/1024%4 != 0 {
		m.Data = []int64{n % 10000, n / 7}
	}
	if n/4096%4 != 0 && d.At < int64(len(d.Program)) {
		m.Line = d.Program[d.At].Line
	}
	return m
}

// Promise 14: long walks, in which whatever comes comes; the Dma is looked at behind each step, and all letters that it sent in the end.
func TestDmaLongWalks(t *testing.T) {
	n := int64(77)
	for walk := range 60 {
		list := manyDescs(walk % 31)
		d, _ := impl.NewDma(list)
		var sent []impl.Msg
		for steps := 0; d.At < int64(len(list)) || steps < 40; steps++ {
			if steps > 2000 {
				t.Fatalf("no end is to be seen: %+v", d)
			}
			n = (25173*n + 13849) % 65536
			var got dmaAnswer
			if n/2048%3 == 0 {
				got = checkDmaAsks(t, d)
				sent = append(sent, got.msgs...)
			} else {
				got = checkDmaAnswers(t, d, mixedTold(d, n))
			}
			stopIfFailed(t)
			d = got.dma
		}
		if len(sent) != len(list) {
			t.Fatalf("of %+v %d letters were sent", list, len(sent))
		}
		for i, one := range list {
			if want := dmaAsks(dmaAt(list, i, false)).msgs[0]; !sameLetter(sent[i], want) {
				t.Errorf("for %+v came %+v", one, sent[i])
			}
		}
	}
}

// A house that nobody else asks hears all that a Dma asks for, and what is told is what was written.
func TestDmaBeforeAHouse(t *testing.T) {
	list := manyDescs(30)
	for i := range list {
		list[i].Line %= 4
	}
	d, _ := impl.NewDma(list)
	h, _ := impl.NewHouse(4)
	words := make([][]int64, 4)
	for i := range words {
		words[i] = []int64{0, 0}
	}
	for i, one := range list {
		asked, msgs, is := impl.Asking(d)
		if !is || len(msgs) != 1 {
			t.Fatalf("number %d is not asked for: %+v", i, asked)
		}
		house, replies, code := impl.Heard(h, msgs[0])
		if code != impl.HsDone || len(replies) != 1 {
			t.Fatalf("Heard(%+v, %+v) = %+v, %d", h, msgs[0], replies, code)
		}
		if d, is = impl.Answered(asked, replies[0]); !is {
			t.Fatalf("%+v does not take %+v", asked, replies[0])
		}
		want := []int64{}
		if one.Write {
			words[one.Line] = byMask(words[one.Line], one.Data, one.Mask)
		} else {
			want = slices.Clone(words[one.Line])
		}
		if !slices.Equal(d.Told[i], want) {
			t.Errorf("of number %d, %+v, is told %v, want %v", i, one, d.Told[i], want)
		}
		h = house
	}
	if !sameLines(h.Memory, words) || d.At != 30 || d.Waits || !impl.DmaOk(d) {
		t.Errorf("in the end: %+v, %+v", d, h.Memory)
	}
}

// spoilDma writes into all that can be reached of a Dma, also into the spare room behind each list.
func spoilDma(d impl.Dma) {
	program := d.Program[:cap(d.Program)]
	for i := range program {
		spoil(program[i].Data)
		program[i] = impl.Desc{Write: true, Line: 99, Mask: 99, Data: []int64{99}}
	}
	spoilMemory(d.Told)
}

// listsOfDma are all lists of numbers in an answer.
func listsOfDma(a dmaAnswer) [][]int64 {
	lists := slices.Clone(a.dma.Told)
	for _, one := range a.dma.Program {
		lists = append(lists, one.Data)
	}
	for _, m := range a.msgs {
		lists = append(lists, m.Data)
	}
	return lists
}

// checkDmaApart writes into one list of an answer after the other, and behind it, and looks whether the others stay.
func checkDmaApart(t *testing.T, name string, a dmaAnswer) {
	t.Helper()
	lists := listsOfDma(a)
	for i := range lists {
		was := copied(lists)
		spoil(lists[i])
		for j := range lists {
			if j != i && !slices.Equal(lists[j], was[j]) {
				t.Errorf("%s: lists %d and %d of %+v share memory", name, i, j, a)
			}
		}
		copy(lists[i], was[i])
	}
}

// checkOwnDma asks, spoils what was answered, and looks at what was given; then asks again, spoils what was given, and looks at what was answered.
func checkOwnDma(t *testing.T, name string, d impl.Dma, m impl.Msg, ask func(impl.Dma, impl.Msg) dmaAnswer) {
	t.Helper()
	given, letter := roomyDma(d), roomyLetter(m)
	was, wasLetter := pictureOfDma(given), pictureOfLetter(letter)
	got := ask(given, letter)
	want := got.copied()
	spoilDma(got.dma)
	spoilNet(got.msgs)
	if pictureOfDma(given) != was || pictureOfLetter(letter) != wasLetter {
		t.Errorf("%s of %+v and %+v answers with memory of an argument", name, d, m)
	}
	got = ask(given, letter)
	spoilDma(given)
	spoil(letter.Data)
	if !got.same(want) {
		t.Errorf("%s of %+v and %+v: what was answered changes with what was given", name, d, m)
	}
	checkDmaApart(t, name, ask(d, m))
}

func TestDmaAnswersAreNewMemory(t *testing.T) {
	for d := range someDmas {
		checkOwnDma(t, "Asking", d, impl.Msg{}, askingAnswer)
		line := int64(1)
		if d.At < int64(len(d.Program)) {
			line = d.Program[d.At].Line
		}
		for _, m := range []impl.Msg{toldTo(line, 5, 6), toldTo(line), toldTo(line+1, 5, 6), {Kind: 9, Line: line, Data: []int64{5, 6}}} {
			checkOwnDma(t, "Answered", d, m, answeredAnswer)
		}
		d.At++
		checkOwnDma(t, "Asking", d, impl.Msg{}, askingAnswer)
		checkOwnDma(t, "Answered", d, toldTo(line, 5, 6), answeredAnswer)
		stopIfFailed(t)
	}
}

func TestDmaNewIsNewMemory(t *testing.T) {
	for _, length := range []int{0, 1, 2, 7, 30} {
		list := manyDescs(length)
		given := roomyDescs(list)
		got, _ := impl.NewDma(given)
		spoilDma(impl.Dma{Program: given})
		if !sameDma(got, impl.Dma{Program: list}) {
			t.Errorf("NewDma(%+v) changes with what was given: %+v", list, got)
		}
		fresh, _ := impl.NewDma(list)
		checkDmaApart(t, "NewDma", dmaAnswer{dma: fresh})
	}
}

// What is given may share memory, all with all: what is answered does not.
func TestDmaOfArgumentsThatShare(t *testing.T) {
	one := []int64{31, 32}
	list := []impl.Desc{readOf(2), writeOf(3, 1, 0, 0), readOf(2), writeOf(2, 3, 0, 0), writeOf(3, 2, 0, 0)}
	for i := range list {
		if list[i].Write {
			list[i].Data = one
		}
	}
	fresh, _ := impl.NewDma(list)
	checkDmaApart(t, "NewDma", dmaAnswer{dma: fresh})
	for at := range len(list) {
		for _, waits := range []bool{false, true} {
			d := impl.Dma{Program: list, At: int64(at), Waits: waits}
			for i := range at {
				told := one
				if list[i].Write {
					told = one[:0]
				}
				d.Told = append(d.Told, told)
			}
			m := toldTo(list[at].Line)
			m.Data = one
			asked, answered := askingAnswer(d, m), answeredAnswer(d, m)
			if !asked.same(dmaAsks(d)) || !answered.same(dmaAnswers(d, m)) {
				t.Errorf("of %+v came %+v and %+v", d, asked, answered)
			}
			checkDmaApart(t, "Asking", asked)
			checkDmaApart(t, "Answered", answered)
			if !slices.Equal(one, []int64{31, 32}) {
				t.Fatalf("%+v: an argument was written into", d)
			}
		}
	}
}

// One Dma may be asked many times: it stays as it was, and each time it answers the same.
func TestDmaStaysWhatItWas(t *testing.T) {
	for d := range fewDmas {
		given := roomyDma(d)
		was := pictureOfDma(given)
		for range 3 {
			for _, m := range dmaLetters(2) {
				if !answeredAnswer(given, m).same(answeredAnswer(given, m)) || !askingAnswer(given, m).same(dmaAsks(d)) || pictureOfDma(given) != was {
					t.Fatalf("%+v and %+v: not the same twice", d, m)
				}
			}
		}
	}
}
