package tests

import (
	"fmt"
	"math"
	"slices"
	"strings"
	"testing"

	"loop.example/g00342/impl"
)

// houseAnswer is all that Heard answers.
type houseAnswer struct {
	house impl.House
	msgs  []impl.Msg
	code  int64
}

var noHouseAnswer = houseAnswer{code: -1}

func sameHouse(a impl.House, b impl.House) bool {
	return sameLines(a.Memory, b.Memory) && slices.EqualFunc(a.Book, b.Book, sameEntry)
}

func (a houseAnswer) same(b houseAnswer) bool {
	return sameHouse(a.house, b.house) && sameNet(a.msgs, b.msgs) && a.code == b.code
}

func (a houseAnswer) copied() houseAnswer {
	return houseAnswer{houseCopy(a.house), netCopy(a.msgs), a.code}
}

// houseCopy shares nothing with the house; it is without spare room.
func houseCopy(h impl.House) impl.House {
	fresh := impl.House{Memory: copied(h.Memory)}
	for _, e := range h.Book {
		fresh.Book = append(fresh.Book, entryCopy(e))
	}
	return fresh
}

// roomyHouse gives a copy with spare room behind each list of it; in that of the Book stands a right Entry.
func roomyHouse(h impl.House) impl.House {
	wide := impl.House{Memory: roomyMemory(h.Memory)}
	for _, e := range h.Book {
		wide.Book = append(wide.Book, roomyEntry(e))
	}
	wide.Book = append(wide.Book, impl.Entry{Owner: 2})[:len(h.Book)]
	return wide
}

// pictureOfHouse tells all of a house, with the spare room behind each list and where each list stands.
func pictureOfHouse(h impl.House) string {
	var told strings.Builder
	fmt.Fprintf(&told, "%p %p", h.Memory, h.Book)
	for _, l := range h.Memory[:cap(h.Memory)] {
		fmt.Fprintf(&told, " %p %v", l, l[:cap(l)])
	}
	for _, e := range h.Book[:cap(h.Book)] {
		fmt.Fprintf(&told, " %+v %p %v", e, e.Data, e.Data[:cap(e.Data)])
	}
	return told.String()
}

func checkHouseOk(t *testing.T, h impl.House, want bool) {
	t.Helper()
	given := roomyHouse(h)
	was := pictureOfHouse(given)
	if got := impl.HouseOk(given); got != want {
		t.Errorf("HouseOk(%+v) = %v", h, got)
	}
	if pictureOfHouse(given) != was {
		t.Errorf("HouseOk(%+v) wrote into its argument", h)
	}
}

func checkHeard(t *testing.T, h impl.House, m impl.Msg, want houseAnswer) {
	t.Helper()
	given, letter := roomyHouse(h), roomyLetter(m)
	was, wasLetter := pictureOfHouse(given), pictureOfLetter(letter)
	house, msgs, code := impl.Heard(given, letter)
	if got := (houseAnswer{house, msgs, code}); !got.same(want) {
		t.Errorf("Heard(%+v, %+v) = %+v, want %+v", h, m, got, want)
	}
	if pictureOfHouse(given) != was || pictureOfLetter(letter) != wasLetter {
		t.Errorf("Heard(%+v, %+v) wrote into an argument", h, m)
	}
}

func checkHolds(t *testing.T, h impl.House, line int64, want []int64) {
	t.Helper()
	given := roomyHouse(h)
	was := pictureOfHouse(given)
	if got := impl.Holds(given, line); !slices.Equal(got, want) {
		t.Errorf("Holds(%+v, %d) = %v, want %v", h, line, got, want)
	}
	if pictureOfHouse(given) != was {
		t.Errorf("Holds(%+v, %d) wrote into its argument", h, line)
	}
}

func stillHouse(h impl.House, code int64) houseAnswer { return houseAnswer{house: h, code: code} }

// unlikeEntries are right ones that stand beside the one that is looked at, each unlike the next one.
var unlikeEntries = []impl.Entry{
	{Owner: 3},
	{Owner: noOwner, Sharers: 6, Busy: true, Kind: 4, From: 5, Left: 2, Mask: 1, Data: []int64{41, 42}},
	{Owner: noOwner},
	{Owner: 1, Busy: true, Kind: 1, From: 2, Left: 1},
	{Owner: noOwner, Sharers: 9},
}

func manyEntries(count int) []impl.Entry {
	var list []impl.Entry
	for i := range count {
		list = append(list, entryCopy(unlikeEntries[i%len(unlikeEntries)]))
	}
	return list
}

// houseWith is a right house of unlike words and unlike entries, in which this line has that entry.
func houseWith(lines int, line int64, e impl.Entry) impl.House {
	h := impl.House{Memory: unlikeWords(lines), Book: manyEntries(lines)}
	h.Book[line] = entryCopy(e)
	return h
}

// then is the house with that entry at this line, and these words there where some are given.
func then(h impl.House, line int64, e impl.Entry, words ...int64) impl.House {
	fresh := houseCopy(h)
	fresh.Book[line] = entryCopy(e)
	if len(words) != 0 {
		fresh.Memory[line] = words
	}
	return fresh
}

func nobody() impl.Entry { return impl.Entry{Owner: noOwner} }

func owner(core int64) impl.Entry { return impl.Entry{Owner: core} }

func sharers(cores ...int64) impl.Entry { return impl.Entry{Owner: noOwner, Sharers: sharersOf(cores)} }

func sharersOf(cores []int64) int64 {
	return int64(slices.IndexFunc(sharerLists[:], func(list []int64) bool { return slices.Equal(list, cores) }))
}

// busy is the entry, whoever has it, with this request.
func busy(e impl.Entry, kind int64, from int64, left int64) impl.Entry {
	e.Busy, e.Kind, e.From, e.Left = true, kind, from, left
	return e
}

func putting(e impl.Entry, left int64, mask int64, words ...int64) impl.Entry {
	e = busy(e, 4, 5, left)
	e.Mask, e.Data = mask, words
	return e
}

func fetchTo(core int64, line int64) impl.Msg {
	return impl.Msg{Road: 1, From: 4, To: core, Kind: 6, Line: line}
}

func invalidTo(core int64, line int64) impl.Msg {
	return impl.Msg{Road: 1, From: 4, To: core, Kind: 7, Line: line}
}

func grantTo(core int64, line int64, flag int64, words ...int64) impl.Msg {
	return impl.Msg{Road: 2, From: 4, To: core, Kind: 11, Line: line, Data: words, Flag: flag}
}

func ackTo(core int64, line int64) impl.Msg {
	return impl.Msg{Road: 2, From: 4, To: core, Kind: 12, Line: line}
}

func toldTo(line int64, words ...int64) impl.Msg {
	return impl.Msg{Road: 2, From: 4, To: 5, Kind: 13, Line: line, Data: words}
}

// letterRight is chapter 7's text over again.
func letterRight(m impl.Msg) bool {
	for _, f := range [][3]int64{{m.Road, 0, 2}, {m.From, 0, 5}, {m.To, 0, 5}, {m.Kind, 1, 15}, {m.Line, 0, 15}, {m.Flag, 0, 15}} {
		if f[0] < f[1] || f[0] > f[2] {
			return false
		}
	}
	return len(m.Data) == 0 || rightWords(m.Data)
}

func rightWords(l []int64) bool {
	return len(l) == 2 && l[0] >= 0 && l[0] <= 9999 && l[1] >= 0 && l[1] <= 9999
}

// scene is one line of a house that is looked at while it hears: the chapter's text over again, told by lists of who has it.
type scene struct {
	line    int64
	words   []int64
	owner   int64
	sharers []int64
	e       impl.Entry
	msgs    []impl.Msg
}

func sceneOf(h impl.House, line int64) *scene {
	e := h.Book[line]
	return &scene{line, slices.Clone(h.Memory[line]), e.Owner, slices.Clone(sharerLists[e.Sharers]), entryCopy(e), nil}
}

func (s *scene) entry() impl.Entry {
	e := entryCopy(s.e)
	e.Owner, e.Sharers = s.owner, sharersOf(s.sharers)
	return e
}

func (s *scene) holders() []int64 {
	if s.owner != noOwner {
		return []int64{s.owner}
	}
	return s.sharers
}

func (s *scene) forget(core int64) {
	if s.owner == core {
		s.owner = noOwner
	}
	s.sharers = slices.DeleteFunc(s.sharers, func(one int64) bool { return one == core })
}

func (s *scene) share(core int64) {
	s.forget(core)
	s.sharers = append(s.sharers, core)
	slices.Sort(s.sharers)
}

func (s *scene) free() { s.e = impl.Entry{} }

func (s *scene) end() {
	from := s.e.From
	switch s.e.Kind {
	case 1:
		s.forget(from)
		if len(s.holders()) == 0 {
			s.owner = from
			s.msgs = append(s.msgs, grantTo(from, s.line, 2, s.words...))
		} else {
			s.share(from)
			s.msgs = append(s.msgs, grantTo(from, s.line, 1, s.words...))
		}
	case 2:
		s.owner, s.sharers = from, nil
		s.msgs = append(s.msgs, grantTo(from, s.line, 3, s.words...))
	case 3:
		s.msgs = append(s.msgs, toldTo(s.line, s.words...))
		s.free()
	case 4:
		s.words = byMask(s.words, s.e.Data, s.e.Mask)
		s.msgs = append(s.msgs, toldTo(s.line))
		s.free()
	}
}

// request is done of a letter that may ask so, where the entry is not Busy.
func (s *scene) request(m impl.Msg) {
	kind := map[int64]int64{1: 1, 2: 2, 4: 3, 5: 4}[m.Kind]
	for _, core := range s.holders() {
		if core == m.From || core != s.owner && (kind == 1 || kind == 3) {
			continue
		}
		if kind == 1 || kind == 3 {
			s.msgs = append(s.msgs, fetchTo(core, s.line))
		} else {
			s.msgs = append(s.msgs, invalidTo(core, s.line))
		}
	}
	s.e = impl.Entry{Busy: true, Kind: kind, From: m.From, Left: int64(len(s.msgs))}
	if kind == 4 {
		s.e.Mask, s.e.Data = m.Flag, slices.Clone(m.Data)
	}
	if len(s.msgs) == 0 {
		s.end()
	}
}

func (s *scene) put(m impl.Msg) {
	if s.owner == m.From && len(m.Data) == 2 {
		s.words = slices.Clone(m.Data)
	}
	s.forget(m.From)
	s.msgs = append(s.msgs, ackTo(m.From, s.line))
}

func (s *scene) answer(m impl.Msg) {
	if len(m.Data) == 2 {
		s.words = slices.Clone(m.Data)
	}
	if m.Flag == 1 || s.e.Kind == 2 || s.e.Kind == 4 {
		s.forget(m.From)
	} else {
		s.share(m.From)
	}
	s.e.Left--
	if s.e.Left == 0 {
		s.end()
	}
}

// mayBeSaid tells who may say so at all, and with what.
func mayBeSaid(m impl.Msg) bool {
	switch m.Kind {
	case 1, 2, 3:
		return m.From <= 3
	case 4:
		return m.From == 5
	case 5:
		return m.From == 5 && len(m.Data) == 2 && m.Flag <= 3
	}
	return false
}

func (s *scene) hear(m impl.Msg) int64 {
	switch m.Kind {
	case 1, 2, 3, 4, 5:
		if !mayBeSaid(m) {
			return 0
		}
		if s.e.Busy {
			return 2
		}
		if m.Kind == 3 {
			s.put(m)
		} else {
			s.request(m)
		}
		return 1
	case 8, 9:
		if s.e.Busy && s.e.Left > 0 && slices.Contains(s.holders(), m.From) {
			s.answer(m)
			return 1
		}
	case 10:
		if s.e.Busy && s.e.Left == 0 && s.e.From == m.From {
			s.free()
			return 1
		}
	}
	return 0
}

// hears is the chapter's text of Heard over again, of a right house.
func hears(h impl.House, m impl.Msg) houseAnswer {
	if !letterRight(m) || m.Line >= int64(len(h.Book)) {
		return stillHouse(h, 0)
	}
	s := sceneOf(h, m.Line)
	code := s.hear(m)
	if code != 1 {
		return stillHouse(h, code)
	}
	return houseAnswer{then(h, m.Line, s.entry(), s.words...), s.msgs, 1}
}

// houseRight is the chapter's text over again.
func houseRight(h impl.House) bool {
	if len(h.Memory) < 1 || len(h.Memory) > 16 || len(h.Book) != len(h.Memory) {
		return false
	}
	for i, l := range h.Memory {
		if !rightWords(l) || !entryRight(h.Book[i]) {
			return false
		}
	}
	return true
}

// checkHouseStays is promise 13 of one answer: a right house, of which each Entry has one kind of Holders.
func checkHouseStays(t *testing.T, before impl.House, m impl.Msg, after houseAnswer) {
	t.Helper()
	if !impl.HouseOk(after.house) || !houseRight(after.house) || len(after.house.Book) != len(before.Book) {
		t.Errorf("of %+v and %+v came a house that is not right: %+v", before, m, after.house)
	}
	for _, e := range after.house.Book {
		if e.Owner != noOwner && e.Sharers != 0 {
			t.Errorf("of %+v and %+v came %+v, with an Owner and Sharers", before, m, e)
		}
	}
	if !impl.NetOk(after.msgs) {
		t.Errorf("of %+v and %+v came letters that are not right: %+v", before, m, after.msgs)
	}
	if after.code != impl.HsDone && (!sameHouse(before, after.house) || len(after.msgs) != 0) {
		t.Errorf("of %+v and %+v came %+v, though the code is %d", before, m, after, after.code)
	}
}

// checkHears holds one answer against the text over again and against the promise, and hands it back.
func checkHears(t *testing.T, h impl.House, m impl.Msg) houseAnswer {
	t.Helper()
	want := hears(h, m)
	checkHeard(t, h, m, want)
	house, msgs, code := impl.Heard(h, m)
	got := houseAnswer{house, msgs, code}
	checkHouseStays(t, h, m, got)
	return got
}

func TestHouseCodes(t *testing.T) {
	for want, got := range []int64{impl.HsNone, impl.HsDone, impl.HsWait} {
		if got != int64(want) {
			t.Errorf("code %d is %d", want, got)
		}
	}
}

func TestHouseNewOfEverySize(t *testing.T) {
	for lines := int64(1); lines <= 16; lines++ {
		h, is := impl.NewHouse(lines)
		want := impl.House{}
		for range lines {
			want.Memory = append(want.Memory, []int64{0, 0})
			want.Book = append(want.Book, nobody())
		}
		if !is || !sameHouse(h, want) {
			t.Errorf("NewHouse(%d) = %+v, %v", lines, h, is)
		}
		checkHouseOk(t, h, true)
		for line := int64(-1); line <= 17; line++ {
			checkHolds(t, h, line, nil)
		}
		checkLinesApart(t, fmt.Sprintf("NewHouse(%d)", lines), h.Memory)
		spoilHouse(h)
		if again, _ := impl.NewHouse(lines); !sameHouse(again, want) {
			t.Errorf("NewHouse(%d) = %+v after another one was changed", lines, again)
		}
	}
}

func TestHouseNewOfWrongLines(t *testing.T) {
	for _, lines := range slices.Concat([]int64{0, 17}, wrongLines, farLines, []int64{256 + 1, 1<<32 + 1, math.MinInt64 + 16}) {
		h, is := impl.NewHouse(lines)
		if is || len(h.Memory) != 0 || len(h.Book) != 0 {
			t.Errorf("NewHouse(%d) = %+v, %v", lines, h, is)
		}
	}
}

// checkNoHouse asks all that is asked of a house, also with letters that would be refused of themselves.
func checkNoHouse(t *testing.T, h impl.House) {
	t.Helper()
	checkHouseOk(t, h, false)
	for _, kind := range []int64{-1, 0, 1, 2, 3, 4, 5, 8, 9, 10, 15, 16} {
		for _, from := range []int64{0, 5} {
			checkHeard(t, h, impl.Msg{From: from, Kind: kind, Data: []int64{1, 2}, Flag: 1}, noHouseAnswer)
		}
	}
	checkHeard(t, h, impl.Msg{Kind: 1, Line: 15}, noHouseAnswer)
	checkHeard(t, h, impl.Msg{Kind: 1, Line: math.MinInt64}, noHouseAnswer)
	for _, line := range []int64{math.MinInt64, -1, 0, 1, 15, 16, math.MaxInt64} {
		checkHolds(t, h, line, nil)
	}
	stopIfFailed(t)
}

// As many Entries as lines, from 1 to 16; one fewer and one more are wrong, and so are all other counts.
func TestHouseOfAllLengths(t *testing.T) {
	for lines := range 19 {
		for entries := range 19 {
			h := impl.House{Memory: unlikeWords(lines), Book: manyEntries(entries)}
			if lines == entries && lines >= 1 && lines <= 16 {
				checkHouseOk(t, h, true)
				continue
			}
			checkNoHouse(t, h)
		}
	}
	checkNoHouse(t, impl.House{Memory: unlikeWords(400), Book: manyEntries(400)})
	if impl.HouseOk(impl.House{Memory: unlikeWords(2), Book: make([]impl.Entry, 100000)}) {
		t.Errorf("100000 Entries are as many as 2 lines")
	}
}

func TestHouseOfWrongMemories(t *testing.T) {
	for m := range noMemories {
		checkNoHouse(t, impl.House{Memory: m, Book: manyEntries(len(m))})
	}
}

func TestHouseOfWrongEntries(t *testing.T) {
	wrong := []impl.Entry{
		{Owner: -2}, {Owner: 4}, {Owner: 1, Sharers: 2}, {Owner: noOwner, Sharers: 16}, {Owner: noOwner, Sharers: -1},
		{Owner: noOwner, Kind: 1}, {Owner: noOwner, From: 1}, {Owner: noOwner, Left: 1}, {Owner: noOwner, Mask: 1}, {Owner: noOwner, Data: []int64{1, 2}},
		busy(owner(1), 0, 0, 1), busy(owner(1), 5, 5, 1), busy(owner(1), 1, 4, 1), busy(owner(1), 2, 5, 1), busy(owner(1), 3, 0, 1), busy(owner(1), 3, 5, 0),
		busy(owner(1), 1, 0, 5), busy(owner(1), 2, 0, -1), putting(owner(1), 0, 1, 2, 3), putting(owner(1), 1, 4, 2, 3), putting(owner(1), 1, 1), putting(owner(1), 1, 1, 2, 10000),
	}
	for _, lines := range []int{1, 2, 16} {
		for line := range int64(lines) {
			for _, e := range wrong {
				checkNoHouse(t, houseWith(lines, line, e))
			}
		}
	}
	for e := range fewEntries {
		checkHouseOk(t, houseWith(3, 2, e), true)
		for _, bad := range oneWrongNumber(e) {
			if h := houseWith(3, 2, bad); impl.HouseOk(h) {
				t.Errorf("HouseOk(%+v)", h)
			}
		}
		stopIfFailed(t)
	}
}

func TestHouseOfNothing(t *testing.T) {
	checkNoHouse(t, impl.House{})
	checkNoHouse(t, impl.House{Memory: [][]int64{}, Book: []impl.Entry{}})
	checkNoHouse(t, impl.House{Memory: [][]int64{nil}, Book: []impl.Entry{nobody()}})
	checkNoHouse(t, impl.House{Memory: [][]int64{{0, 0}}})
	checkNoHouse(t, impl.House{Book: []impl.Entry{nobody()}})
	// The zero Entry is one of which core 0 is the Owner.
	checkHouseOk(t, impl.House{Memory: [][]int64{{0, 0}}, Book: []impl.Entry{{}}}, true)
	checkHolds(t, impl.House{Memory: [][]int64{{0, 0}}, Book: []impl.Entry{{}}}, 0, []int64{0})
	for _, n := range farOfEntry {
		checkNoHouse(t, impl.House{Memory: [][]int64{{n, 0}}, Book: []impl.Entry{{Owner: n, Kind: n, From: n, Left: n, Mask: n}}})
		checkNoHouse(t, impl.House{Memory: [][]int64{{0, 0}}, Book: []impl.Entry{{Owner: n, Busy: true, Kind: n, From: n, Left: n, Mask: n, Data: []int64{n, n}}}})
	}
}

func TestHouseHolds(t *testing.T) {
	for e, holders := range everyEntry {
		h := houseWith(3, 1, e)
		checkHolds(t, h, 1, holders)
		checkHolds(t, h, 0, []int64{3})
		checkHolds(t, h, 2, nil)
		checkHolds(t, h, 3, nil)
		checkHolds(t, h, -1, nil)
		stopIfFailed(t)
	}
	h := houseWith(16, 15, sharers(0, 1, 2, 3))
	for line := range int64(16) {
		want := [][]int64{{3}, {1, 2}, {}, {1}, {0, 3}}[line%5]
		if line == 15 {
			want = []int64{0, 1, 2, 3}
		}
		checkHolds(t, h, line, want)
	}
	for _, line := range noLineNumbers {
		checkHolds(t, h, line, nil)
	}
}

// requestRow tells by hand what comes of one request where the entry is not Busy; the words of the line are 1020 and 1027.
type requestRow struct {
	was  impl.Entry
	m    impl.Msg
	then impl.Entry
	msgs []impl.Msg
}

func readBy(core int64) impl.Msg { return impl.Msg{From: core, To: 4, Kind: 1, Line: 1} }

func writeBy(core int64) impl.Msg { return impl.Msg{From: core, To: 4, Kind: 2, Line: 1} }

var snap = impl.Msg{From: 5, To: 4, Kind: 4, Line: 1}

// setBy is the DMA's letter with the words 81 and 82.
func setBy(mask int64) impl.Msg {
	return impl.Msg{From: 5, To: 4, Kind: 5, Line: 1, Data: []int64{81, 82}, Flag: mask}
}

func requestRows() []requestRow {
	return []requestRow{
		{nobody(), readBy(0), busy(owner(0), 1, 0, 0), []impl.Msg{grantTo(0, 1, 2, 1020, 1027)}},
		{nobody(), readBy(3), busy(owner(3), 1, 3, 0), []impl.Msg{grantTo(3, 1, 2, 1020, 1027)}},
		{owner(2), readBy(2), busy(owner(2), 1, 2, 0), []impl.Msg{grantTo(2, 1, 2, 1020, 1027)}},
		{sharers(2), readBy(2), busy(owner(2), 1, 2, 0), []impl.Msg{grantTo(2, 1, 2, 1020, 1027)}},
		{sharers(1), readBy(0), busy(sharers(0, 1), 1, 0, 0), []impl.Msg{grantTo(0, 1, 1, 1020, 1027)}},
		{sharers(1, 2), readBy(1), busy(sharers(1, 2), 1, 1, 0), []impl.Msg{grantTo(1, 1, 1, 1020, 1027)}},
		{sharers(0, 2), readBy(3), busy(sharers(0, 2, 3), 1, 3, 0), []impl.Msg{grantTo(3, 1, 1, 1020, 1027)}},
		{sharers(0, 1, 2, 3), readBy(3), busy(sharers(0, 1, 2, 3), 1, 3, 0), []impl.Msg{grantTo(3, 1, 1, 1020, 1027)}},
		{owner(2), readBy(0), busy(owner(2), 1, 0, 1), []impl.Msg{fetchTo(2, 1)}},
		{owner(0), readBy(3), busy(owner(0), 1, 3, 1), []impl.Msg{fetchTo(0, 1)}},
		{nobody(), writeBy(0), busy(owner(0), 2, 0, 0), []impl.Msg{grantTo(0, 1, 3, 1020, 1027)}},
		{owner(1), writeBy(1), busy(owner(1), 2, 1, 0), []impl.Msg{grantTo(1, 1, 3, 1020, 1027)}},
		{sharers(1), writeBy(1), busy(owner(1), 2, 1, 0), []impl.Msg{grantTo(1, 1, 3, 1020, 1027)}},
		{owner(1), writeBy(3), busy(owner(1), 2, 3, 1), []impl.Msg{invalidTo(1, 1)}},
		{sharers(1), writeBy(0), busy(sharers(1), 2, 0, 1), []impl.Msg{invalidTo(1, 1)}},
		{sharers(0, 3), writeBy(0), busy(sharers(0, 3), 2, 0, 1), []impl.Msg{invalidTo(3, 1)}},
		{sharers(0, 1, 2, 3), writeBy(1), busy(sharers(0, 1, 2, 3), 2, 1, 3), []impl.Msg{invalidTo(0, 1), invalidTo(2, 1), invalidTo(3, 1)}},
		{sharers(0, 2, 3), writeBy(1), busy(sharers(0, 2, 3), 2, 1, 3), []impl.Msg{invalidTo(0, 1), invalidTo(2, 1), invalidTo(3, 1)}},
		{nobody(), snap, nobody(), []impl.Msg{toldTo(1, 1020, 1027)}},
		{sharers(3), snap, sharers(3), []impl.Msg{toldTo(1, 1020, 1027)}},
		{sharers(0, 1, 2, 3), snap, sharers(0, 1, 2, 3), []impl.Msg{toldTo(1, 1020, 1027)}},
		{owner(0), snap, busy(owner(0), 3, 5, 1), []impl.Msg{fetchTo(0, 1)}},
		{owner(3), snap, busy(owner(3), 3, 5, 1), []impl.Msg{fetchTo(3, 1)}},
		{owner(0), setBy(2), putting(owner(0), 1, 2, 81, 82), []impl.Msg{invalidTo(0, 1)}},
		{sharers(2), setBy(0), putting(sharers(2), 1, 0, 81, 82), []impl.Msg{invalidTo(2, 1)}},
		{sharers(1, 3), setBy(3), putting(sharers(1, 3), 2, 3, 81, 82), []impl.Msg{invalidTo(1, 1), invalidTo(3, 1)}},
		{sharers(0, 1, 2, 3), setBy(1), putting(sharers(0, 1, 2, 3), 4, 1, 81, 82), []impl.Msg{invalidTo(0, 1), invalidTo(1, 1), invalidTo(2, 1), invalidTo(3, 1)}},
	}
}

func TestHouseRequestsByHand(t *testing.T) {
	for _, r := range requestRows() {
		h := houseWith(3, 1, r.was)
		want := houseAnswer{then(h, 1, r.then), r.msgs, impl.HsDone}
		checkHeard(t, h, r.m, want)
		checkHouseStays(t, h, r.m, want)
	}
}

// A line that nobody has is written at once, by each mask.
func TestHouseSetOfWhatNobodyHas(t *testing.T) {
	for mask, words := range [][]int64{{1020, 1027}, {81, 1027}, {1020, 82}, {81, 82}} {
		h := houseWith(3, 1, nobody())
		checkHeard(t, h, setBy(int64(mask)), houseAnswer{then(h, 1, nobody(), words...), []impl.Msg{toldTo(1)}, impl.HsDone})
	}
}

// Each request waits where the entry is Busy, whatever with and whoever has it.
func TestHouseRequestsWait(t *testing.T) {
	for e := range everyEntry {
		if !e.Busy {
			continue
		}
		h := houseWith(2, 1, e)
		for _, m := range []impl.Msg{readBy(0), readBy(3), writeBy(1), writeBy(e.From % 4), snap, setBy(0), setBy(3), {From: 2, Kind: 3, Line: 1}, {From: e.From % 4, Kind: 3, Line: 1, Data: []int64{3, 4}, Flag: 1}} {
			house, msgs, code := impl.Heard(h, m)
			if code != impl.HsWait || len(msgs) != 0 || !sameHouse(house, h) {
				t.Errorf("Heard(%+v, %+v) = %+v, %+v, %d", h, m, house, msgs, code)
			}
		}
		stopIfFailed(t)
	}
}

// Who may not ask so is not heard: nor does it wait, for its turn would never come.
func TestHouseOfWhoMayNotAsk(t *testing.T) {
	var list []impl.Msg
	for from := range int64(6) {
		for kind := int64(1); kind <= 5; kind++ {
			if byCore := kind <= 3; byCore != (from <= 3) || from == 4 {
				list = append(list, impl.Msg{From: from, To: 4, Kind: kind, Line: 1, Data: []int64{81, 82}, Flag: 1}, impl.Msg{From: from, To: 4, Kind: kind, Line: 1})
			}
		}
	}
	for flag := int64(4); flag <= 15; flag++ {
		list = append(list, setBy(flag))
	}
	for flag := range int64(16) {
		m := setBy(flag)
		m.Data = nil
		list = append(list, m)
		m.Data = []int64{}
		list = append(list, m)
	}
	for e := range fewEntries {
		h := houseWith(2, 1, e)
		for _, m := range list {
			checkHeard(t, h, m, stillHouse(h, impl.HsNone))
		}
		stopIfFailed(t)
	}
}

// What else stands in a request makes no difference: Road, To, and where nothing is to be written Data and Flag.
func TestHouseOfWhateverElse(t *testing.T) {
	for _, r := range requestRows() {
		h := houseWith(3, 1, r.was)
		want := houseAnswer{then(h, 1, r.then), r.msgs, impl.HsDone}
		for road := range int64(3) {
			for to := range int64(6) {
				m := letterCopy(r.m)
				m.Road, m.To = road, to
				checkHeard(t, h, m, want)
				if m.Kind != impl.MsSet {
					m.Data, m.Flag = []int64{9, 8}, 1+to+road
					checkHeard(t, h, m, want)
				}
			}
		}
		stopIfFailed(t)
	}
}

// houseRow tells by hand what comes of one letter.
type houseRow struct {
	was   impl.Entry
	m     impl.Msg
	then  impl.Entry
	words []int64
	msgs  []impl.Msg
}

func checkHouseRows(t *testing.T, rows []houseRow) {
	t.Helper()
	for _, r := range rows {
		h := houseWith(3, 1, r.was)
		want := houseAnswer{then(h, 1, r.then, r.words...), r.msgs, impl.HsDone}
		checkHeard(t, h, r.m, want)
		checkHouseStays(t, h, r.m, want)
	}
}

func TestHousePutByHand(t *testing.T) {
	put := func(core int64, flag int64, words ...int64) impl.Msg {
		return impl.Msg{From: core, To: 4, Kind: 3, Line: 1, Data: words, Flag: flag}
	}
	for flag := range int64(3) {
		checkHouseRows(t, []houseRow{
			{owner(0), put(0, flag, 5, 6), nobody(), []int64{5, 6}, []impl.Msg{ackTo(0, 1)}},
			{owner(3), put(3, flag, 0, 9999), nobody(), []int64{0, 9999}, []impl.Msg{ackTo(3, 1)}},
			{owner(2), put(2, flag), nobody(), nil, []impl.Msg{ackTo(2, 1)}},
			{owner(2), put(1, flag, 5, 6), owner(2), nil, []impl.Msg{ackTo(1, 1)}},
			{owner(2), put(1, flag), owner(2), nil, []impl.Msg{ackTo(1, 1)}},
			{sharers(2), put(2, flag), nobody(), nil, []impl.Msg{ackTo(2, 1)}},
			{sharers(2), put(2, flag, 5, 6), nobody(), nil, []impl.Msg{ackTo(2, 1)}},
			{sharers(0, 2, 3), put(2, flag), sharers(0, 3), nil, []impl.Msg{ackTo(2, 1)}},
			{sharers(0, 2, 3), put(0, flag, 5, 6), sharers(2, 3), nil, []impl.Msg{ackTo(0, 1)}},
			{sharers(0, 2, 3), put(1, flag, 5, 6), sharers(0, 2, 3), nil, []impl.Msg{ackTo(1, 1)}},
			{nobody(), put(0, flag, 5, 6), nobody(), nil, []impl.Msg{ackTo(0, 1)}},
			{nobody(), put(3, flag), nobody(), nil, []impl.Msg{ackTo(3, 1)}},
		})
	}
}

// answerBy is MsData or MsAck, as it is told by a core.
func answerBy(kind int64, core int64, flag int64, words ...int64) impl.Msg {
	return impl.Msg{Road: 2, From: core, To: 4, Kind: kind, Line: 1, Data: words, Flag: flag}
}

// One answer that is not the last one: it is Busy still, and nothing is sent.
func TestHouseAnswersBeforeTheLast(t *testing.T) {
	for _, kind := range []int64{impl.MsData, impl.MsAck} {
		checkHouseRows(t, []houseRow{
			{busy(sharers(0, 1, 2), 2, 3, 3), answerBy(kind, 1, 1), busy(sharers(0, 2), 2, 3, 2), nil, nil},
			{busy(sharers(0, 1, 2), 2, 3, 3), answerBy(kind, 1, 0), busy(sharers(0, 2), 2, 3, 2), nil, nil},
			{busy(sharers(0, 1, 2), 2, 0, 2), answerBy(kind, 2, 1, 5, 6), busy(sharers(0, 1), 2, 0, 1), []int64{5, 6}, nil},
			{busy(owner(2), 2, 0, 4), answerBy(kind, 2, 0, 5, 6), busy(nobody(), 2, 0, 3), []int64{5, 6}, nil},
			{busy(owner(2), 1, 0, 2), answerBy(kind, 2, 0, 5, 6), busy(sharers(2), 1, 0, 1), []int64{5, 6}, nil},
			{busy(owner(2), 1, 0, 2), answerBy(kind, 2, 1, 5, 6), busy(nobody(), 1, 0, 1), []int64{5, 6}, nil},
			{busy(owner(2), 1, 0, 2), answerBy(kind, 2, 2), busy(sharers(2), 1, 0, 1), nil, nil},
			{busy(sharers(1, 2), 1, 0, 4), answerBy(kind, 2, 0), busy(sharers(1, 2), 1, 0, 3), nil, nil},
			{busy(sharers(1, 2), 1, 0, 4), answerBy(kind, 2, 1), busy(sharers(1), 1, 0, 3), nil, nil},
			{busy(owner(3), 3, 5, 2), answerBy(kind, 3, 0, 5, 6), busy(sharers(3), 3, 5, 1), []int64{5, 6}, nil},
			{busy(owner(3), 3, 5, 2), answerBy(kind, 3, 1), busy(nobody(), 3, 5, 1), nil, nil},
			{busy(sharers(0, 3), 3, 5, 2), answerBy(kind, 3, 1), busy(sharers(0), 3, 5, 1), nil, nil},
			{busy(sharers(0, 3), 3, 5, 2), answerBy(kind, 3, 15), busy(sharers(0, 3), 3, 5, 1), nil, nil},
			{putting(sharers(0, 3), 2, 1, 81, 82), answerBy(kind, 0, 1), putting(sharers(3), 1, 1, 81, 82), nil, nil},
			{putting(sharers(0, 3), 2, 1, 81, 82), answerBy(kind, 0, 0), putting(sharers(3), 1, 1, 81, 82), nil, nil},
			{putting(owner(0), 2, 0, 81, 82), answerBy(kind, 0, 0, 5, 6), putting(nobody(), 1, 0, 81, 82), []int64{5, 6}, nil},
		})
	}
}

// The last answer: the end of it comes at once.
func TestHouseLastAnswers(t *testing.T) {
	for _, kind := range []int64{impl.MsData, impl.MsAck} {
		checkHouseRows(t, []houseRow{
			{busy(owner(2), 1, 0, 1), answerBy(kind, 2, 0, 5, 6), busy(sharers(0, 2), 1, 0, 0), []int64{5, 6}, []impl.Msg{grantTo(0, 1, 1, 5, 6)}},
			{busy(owner(2), 1, 0, 1), answerBy(kind, 2, 1, 5, 6), busy(owner(0), 1, 0, 0), []int64{5, 6}, []impl.Msg{grantTo(0, 1, 2, 5, 6)}},
			{busy(owner(2), 1, 0, 1), answerBy(kind, 2, 0), busy(sharers(0, 2), 1, 0, 0), nil, []impl.Msg{grantTo(0, 1, 1, 1020, 1027)}},
			{busy(owner(2), 1, 0, 1), answerBy(kind, 2, 1), busy(owner(0), 1, 0, 0), nil, []impl.Msg{grantTo(0, 1, 2, 1020, 1027)}},
			{busy(owner(2), 1, 0, 1), answerBy(kind, 2, 3, 5, 6), busy(sharers(0, 2), 1, 0, 0), []int64{5, 6}, []impl.Msg{grantTo(0, 1, 1, 5, 6)}},
			{busy(owner(2), 1, 2, 1), answerBy(kind, 2, 0, 5, 6), busy(owner(2), 1, 2, 0), []int64{5, 6}, []impl.Msg{grantTo(2, 1, 2, 5, 6)}},
			{busy(sharers(1, 3), 1, 0, 1), answerBy(kind, 3, 1), busy(sharers(0, 1), 1, 0, 0), nil, []impl.Msg{grantTo(0, 1, 1, 1020, 1027)}},
			{busy(sharers(0, 3), 1, 0, 1), answerBy(kind, 3, 1), busy(owner(0), 1, 0, 0), nil, []impl.Msg{grantTo(0, 1, 2, 1020, 1027)}},
			{busy(owner(2), 2, 0, 1), answerBy(kind, 2, 1, 5, 6), busy(owner(0), 2, 0, 0), []int64{5, 6}, []impl.Msg{grantTo(0, 1, 3, 5, 6)}},
			{busy(owner(2), 2, 0, 1), answerBy(kind, 2, 0), busy(owner(0), 2, 0, 0), nil, []impl.Msg{grantTo(0, 1, 3, 1020, 1027)}},
			{busy(sharers(1, 3), 2, 1, 1), answerBy(kind, 3, 1), busy(owner(1), 2, 1, 0), nil, []impl.Msg{grantTo(1, 1, 3, 1020, 1027)}},
			{busy(sharers(0, 1, 2, 3), 2, 1, 1), answerBy(kind, 3, 1), busy(owner(1), 2, 1, 0), nil, []impl.Msg{grantTo(1, 1, 3, 1020, 1027)}},
			{busy(owner(1), 3, 5, 1), answerBy(kind, 1, 0, 5, 6), sharers(1), []int64{5, 6}, []impl.Msg{toldTo(1, 5, 6)}},
			{busy(owner(1), 3, 5, 1), answerBy(kind, 1, 1, 5, 6), nobody(), []int64{5, 6}, []impl.Msg{toldTo(1, 5, 6)}},
			{busy(owner(1), 3, 5, 1), answerBy(kind, 1, 0), sharers(1), nil, []impl.Msg{toldTo(1, 1020, 1027)}},
			{busy(sharers(1, 2), 3, 5, 1), answerBy(kind, 1, 1), sharers(2), nil, []impl.Msg{toldTo(1, 1020, 1027)}},
			{putting(owner(1), 1, 1, 81, 82), answerBy(kind, 1, 1, 5, 6), nobody(), []int64{81, 6}, []impl.Msg{toldTo(1)}},
			{putting(owner(1), 1, 2, 81, 82), answerBy(kind, 1, 0, 5, 6), nobody(), []int64{5, 82}, []impl.Msg{toldTo(1)}},
			{putting(owner(1), 1, 0, 81, 82), answerBy(kind, 1, 1, 5, 6), nobody(), []int64{5, 6}, []impl.Msg{toldTo(1)}},
			{putting(sharers(3), 1, 3, 81, 82), answerBy(kind, 3, 1), nobody(), []int64{81, 82}, []impl.Msg{toldTo(1)}},
			{putting(sharers(3), 1, 1, 81, 82), answerBy(kind, 3, 1), nobody(), []int64{81, 1027}, []impl.Msg{toldTo(1)}},
			{putting(sharers(0, 3), 1, 1, 81, 82), answerBy(kind, 3, 1), sharers(0), []int64{81, 1027}, []impl.Msg{toldTo(1)}},
		})
	}
}

// An answer that nobody waits for, or that is not from a Holder, is not heard.
func TestHouseAnswersThatNobodyWaitsFor(t *testing.T) {
	for e, holders := range everyEntry {
		h := houseWith(2, 1, e)
		for from := range int64(6) {
			if e.Busy && e.Left > 0 && slices.Contains(holders, from) {
				continue
			}
			for _, m := range []impl.Msg{answerBy(8, from, 0, 5, 6), answerBy(8, from, 1, 5, 6), answerBy(9, from, 0), answerBy(9, from, 1)} {
				house, msgs, code := impl.Heard(h, m)
				if code != impl.HsNone || len(msgs) != 0 || !sameHouse(house, h) {
					t.Errorf("Heard(%+v, %+v) = %+v, %+v, %d", h, m, house, msgs, code)
				}
			}
		}
		stopIfFailed(t)
	}
}

func TestHouseDoneOfEveryEntry(t *testing.T) {
	count := 0
	for e := range everyEntry {
		h := houseWith(2, 1, e)
		for from := range int64(6) {
			for _, m := range []impl.Msg{{Road: 2, From: from, To: 4, Kind: 10, Line: 1}, {From: from, Kind: 10, Line: 1, Data: []int64{5, 6}, Flag: 1}} {
				want := stillHouse(h, impl.HsNone)
				if e.Busy && e.Left == 0 && from == e.From {
					want = houseAnswer{house: then(h, 1, impl.Entry{Owner: e.Owner, Sharers: e.Sharers}), code: impl.HsDone}
					count++
				}
				house, msgs, code := impl.Heard(h, m)
				if got := (houseAnswer{house, msgs, code}); !got.same(want) {
					t.Errorf("Heard(%+v, %+v) = %+v, want %+v", h, m, got, want)
				}
			}
		}
		stopIfFailed(t)
	}
	// 20 holdings, two kinds, four cores, two letters.
	if want := 20 * 2 * 4 * 2; count != want {
		t.Errorf("%d are no more Busy, want %d", count, want)
	}
}

// lettersOf gives letters of every Kind for this line, from everybody, with and without Data, with right and other Flags.
func lettersOf(line int64) []impl.Msg {
	var list []impl.Msg
	for kind := int64(1); kind <= 15; kind++ {
		for from := range int64(6) {
			for flag := range int64(5) {
				m := impl.Msg{Road: 2, From: from, To: 4, Kind: kind, Line: line, Flag: flag}
				list = append(list, m)
				m.Data = []int64{61, 62}
				list = append(list, m)
			}
		}
	}
	return list
}

// Promise 13: every Kind of letter, from everybody, to every entry.
func TestHouseOfEveryEntryAndLetter(t *testing.T) {
	letters := lettersOf(1)
	seen := map[string]int{}
	n := 0
	for e := range everyEntry {
		if e.Kind == impl.KdPut && e.Data[0] != 5 {
			continue
		}
		h := houseWith(2, 1, e)
		for _, m := range letters {
			n++
			if m.Kind > 10 && n%7 != 0 {
				continue
			}
			want := hears(h, m)
			house, msgs, code := impl.Heard(h, m)
			if got := (houseAnswer{house, msgs, code}); !got.same(want) {
				t.Errorf("Heard(%+v, %+v) = %+v, want %+v", h, m, got, want)
			}
			checkHouseStays(t, h, m, want)
			seen[fmt.Sprint(m.Kind, " ", code)]++
		}
		stopIfFailed(t)
	}
	for _, key := range []string{"1 0", "1 1", "1 2", "2 0", "2 1", "2 2", "3 0", "3 1", "3 2", "4 0", "4 1", "4 2", "5 0", "5 1", "5 2", "6 0", "7 0", "8 0", "8 1", "9 0", "9 1", "10 0", "10 1", "11 0", "12 0", "13 0", "14 0", "15 0"} {
		if seen[key] == 0 {
			t.Errorf("of Kind and code %s there is none", key)
		}
	}
	if len(seen) != 28 {
		t.Errorf("looked at %v", seen)
	}
}

// Every line of every size of house; a line that the house has not is not heard of, though the letter is right.
func TestHouseOfEveryLine(t *testing.T) {
	for lines := 1; lines <= 16; lines++ {
		for line := range int64(16) {
			h := houseWith(lines, min(line, int64(lines)-1), owner(2))
			for _, m := range []impl.Msg{{From: 1, Kind: 1, Line: line}, {From: 1, Kind: 2, Line: line}, {From: 2, Kind: 3, Line: line, Data: []int64{1, 2}}, {From: 5, Kind: 4, Line: line}, {From: 5, Kind: 5, Line: line, Data: []int64{1, 2}}, {From: 2, Kind: 9, Line: line}, {From: 2, Kind: 10, Line: line}} {
				got := checkHears(t, h, m)
				if line >= int64(lines) && got.code != impl.HsNone {
					t.Errorf("of %d lines line %d is heard of: %+v", lines, line, got)
				}
				if line < int64(lines) && m.Kind <= 5 && got.code != impl.HsDone {
					t.Errorf("of %d lines line %d is not heard of: %+v", lines, line, got)
				}
			}
			stopIfFailed(t)
		}
	}
}

// Each field of a letter wrong, of letters that would be heard, or would wait, if it were right.
func TestHouseOfWrongLetters(t *testing.T) {
	rows := []struct {
		e impl.Entry
		m impl.Msg
	}{
		{nobody(), readBy(0)}, {owner(1), writeBy(2)}, {owner(1), snap}, {sharers(1, 2), setBy(3)}, {owner(1), impl.Msg{From: 1, Kind: 3, Line: 1}},
		{busy(owner(1), 1, 0, 1), answerBy(8, 1, 1, 5, 6)}, {busy(owner(1), 2, 0, 1), answerBy(9, 1, 1)}, {busy(owner(1), 2, 1, 0), impl.Msg{From: 1, Kind: 10, Line: 1}},
		{busy(owner(1), 2, 1, 0), readBy(0)}, {busy(owner(1), 2, 1, 0), impl.Msg{From: 1, Kind: 3, Line: 1}},
	}
	for _, r := range rows {
		h := houseWith(2, 1, r.e)
		if _, _, code := impl.Heard(h, r.m); code == impl.HsNone {
			t.Errorf("Heard(%+v, %+v) is HsNone", h, r.m)
		}
		for _, f := range fieldsOfLetter() {
			for _, n := range append([]int64{f.least - 1, f.most + 1}, farFields...) {
				if n >= f.least && n <= f.most {
					continue
				}
				m := letterCopy(r.m)
				f.set(&m, n)
				checkHeard(t, h, m, stillHouse(h, impl.HsNone))
			}
		}
		for bad := range noLines {
			m := letterCopy(r.m)
			m.Data = bad
			if len(bad) != 0 {
				checkHeard(t, h, m, stillHouse(h, impl.HsNone))
			}
		}
		stopIfFailed(t)
	}
	for m := range wrongLetters {
		for e := range fewEntries {
			h := houseWith(4, 3, e)
			checkHeard(t, h, m, stillHouse(h, impl.HsNone))
		}
		stopIfFailed(t)
	}
}

// everyOrder gives all orders in which these can come.
func everyOrder(list []int64) [][]int64 {
	if len(list) == 0 {
		return [][]int64{{}}
	}
	var orders [][]int64
	for i, one := range list {
		rest := slices.Delete(slices.Clone(list), i, i+1)
		for _, order := range everyOrder(rest) {
			orders = append(orders, append([]int64{one}, order...))
		}
	}
	return orders
}

// heardOf hears a letter that is to be done, and looks whether the house stays right.
func heardOf(t *testing.T, h impl.House, m impl.Msg) (impl.House, []impl.Msg) {
	t.Helper()
	got := checkHears(t, h, m)
	if got.code != impl.HsDone {
		t.Fatalf("Heard(%+v, %+v) = %+v", h, m, got)
	}
	return got.house, got.msgs
}

// conversation lets the house hear a request, then what each one that is asked answers, in this order, and then Done; it hands back the house and the last letter ahead of Done.
func conversation(t *testing.T, h impl.House, m impl.Msg, order []int64) (impl.House, impl.Msg) {
	t.Helper()
	had := h.Book[m.Line]
	h, msgs := heardOf(t, h, m)
	for i, core := range order {
		if h.Book[m.Line].Left != int64(len(order)-i) {
			t.Fatalf("of %d answers %d came: %+v", len(order), i, h)
		}
		at := slices.IndexFunc(msgs, func(one impl.Msg) bool { return one.To == core })
		if i == 0 && (at == -1 || len(msgs) != len(order)) {
			t.Fatalf("%v are to be asked, and the letters are %+v", order, msgs)
		}
		answer := impl.Msg{Road: 2, From: core, To: 4, Kind: impl.MsAck, Line: m.Line, Flag: 1}
		if had.Owner == core {
			answer.Kind, answer.Data = impl.MsData, []int64{7, 70 + core}
		}
		if m.Kind == impl.MsRead || m.Kind == impl.MsSnap {
			answer.Flag = 0
		}
		var sent []impl.Msg
		h, sent = heardOf(t, h, answer)
		if last := i == len(order)-1; last != (len(sent) == 1) {
			t.Fatalf("answer %d of %d: %+v are sent", i, len(order), sent)
		}
		if len(sent) == 1 {
			msgs = sent
		}
	}
	if m.From != 5 {
		if !h.Book[m.Line].Busy {
			t.Fatalf("ahead of Done it is not Busy: %+v", h)
		}
		h, _ = heardOf(t, h, impl.Msg{Road: 2, From: m.From, To: 4, Kind: impl.MsDone, Line: m.Line})
	}
	if h.Book[m.Line].Busy || len(msgs) != 1 {
		t.Fatalf("in the end it is Busy, or %+v are sent: %+v", msgs, h)
	}
	return h, msgs[0]
}

// Whole conversations: whoever has it, each request, and the answers in every order. In the end one is alone, or all have the same.
func TestHouseConversations(t *testing.T) {
	count := 0
	for held := range everyHolding {
		for i, r := range askRows {
			for _, from := range r.froms {
				m := impl.Msg{From: from, To: 4, Kind: []int64{1, 2, 4, 5}[i], Line: 1}
				if r.puts {
					m.Data, m.Flag = []int64{81, 82}, 2
				}
				asked := mustAnswer(held, r, from)
				for _, order := range everyOrder(asked) {
					h, last := conversation(t, houseWith(2, 1, held), m, order)
					checkConversation(t, held, r, from, h, last)
					count++
				}
			}
		}
		stopIfFailed(t)
	}
	if count < 20*10 {
		t.Errorf("looked at %d", count)
	}
}

func checkConversation(t *testing.T, held impl.Entry, r askRow, from int64, h impl.House, last impl.Msg) {
	t.Helper()
	words := []int64{1020, 1027}
	if held.Owner != noOwner && held.Owner != from {
		words = []int64{7, 70 + held.Owner}
	}
	if r.puts {
		words[1] = 82
	}
	if !slices.Equal(h.Memory[1], words) {
		t.Errorf("%+v, asked by %d for %d: the words are %v, want %v", held, from, r.kind, h.Memory[1], words)
	}
	before := impl.Holders(held)
	var want []int64
	state, kind := int64(0), int64(impl.MsGrant)
	switch r.kind {
	case impl.KdRead:
		want = slices.Compact(slices.Sorted(slices.Values(append(before, from))))
		if state = impl.StS; len(want) == 1 {
			state = impl.StE
		}
	case impl.KdWrite:
		want, state = []int64{from}, impl.StM
	case impl.KdSnap:
		want, kind = before, impl.MsTold
	case impl.KdPut:
		kind = impl.MsTold
	}
	checkHolds(t, h, 1, want)
	if r.puts {
		words = nil
	}
	if !sameLetter(last, impl.Msg{Road: 2, From: 4, To: from, Kind: kind, Line: 1, Data: words, Flag: state}) {
		t.Errorf("%+v, asked by %d for %d: the last letter is %+v", held, from, r.kind, last)
	}
	if alone := state >= impl.StE; alone != (h.Book[1].Owner == from) || r.kind != impl.KdWrite && !alone && h.Book[1].Owner != noOwner {
		t.Errorf("%+v, asked by %d for %d: it is %+v", held, from, r.kind, h.Book[1])
	}
}

// One that goes of itself while it is asked: its MsPut waits, its answer counts, and then what it put is old and changes nothing.
func TestHousePutThatCrossesARequest(t *testing.T) {
	h := houseWith(2, 1, owner(2))
	put := impl.Msg{From: 2, To: 4, Kind: impl.MsPut, Line: 1, Data: []int64{5, 6}, Flag: 1}
	h, _ = heardOf(t, h, writeBy(0))
	checkHeard(t, h, put, stillHouse(h, impl.HsWait))
	h, _ = heardOf(t, h, answerBy(impl.MsData, 2, 1, 5, 6))
	checkHeard(t, h, put, stillHouse(h, impl.HsWait))
	h, _ = heardOf(t, h, impl.Msg{Road: 2, From: 0, To: 4, Kind: impl.MsDone, Line: 1})
	h, _ = heardOf(t, h, impl.Msg{From: 0, To: 4, Kind: impl.MsPut, Line: 1, Data: []int64{8, 9}, Flag: 1})
	h, msgs := heardOf(t, h, put)
	if !slices.Equal(h.Memory[1], []int64{8, 9}) || !sameNet(msgs, []impl.Msg{ackTo(2, 1)}) {
		t.Errorf("the words are %v, the letters %+v", h.Memory[1], msgs)
	}
	checkHolds(t, h, 1, nil)
}

// mixedHouseLetter is some letter that a house may hear, told by a number; often one that fits what it waits for.
func mixedHouseLetter(h impl.House, n int64) impl.Msg {
	line := n / 64 % int64(len(h.Book)+1)
	m := impl.Msg{Road: n % 3, From: n / 8 % 6, To: n / 16 % 6, Kind: 1 + n/4%11, Line: line, Flag: n / 2048 % 5}
	if n/32%2 == 0 {
		m.Data = []int64{n % 10000, n / 7}
	}
	if line == int64(len(h.Book)) || n/4096%4 == 0 {
		return m
	}
	e := h.Book[line]
	if holders := impl.Holders(e); e.Left > 0 && len(holders) > 0 {
		m.Kind, m.From = 8+n/4%2, holders[n/8%int64(len(holders))]
	} else if e.Busy {
		m.Kind, m.From = 10, e.From
	}
	return m
}

// Promise 13: long walks of each size, in which whatever comes comes; the house is looked at behind each step.
func TestHouseLongWalks(t *testing.T) {
	for lines := int64(1); lines <= 16; lines++ {
		n := lines * 11
		seen := map[string]int{}
		h, _ := impl.NewHouse(lines)
		for range 1500 {
			n = (25173*n + 13849) % 65536
			m := mixedHouseLetter(h, n)
			got := checkHears(t, h, m)
			seen[fmt.Sprint(m.Kind, " ", got.code)]++
			stopIfFailed(t)
			h = got.house
		}
		for _, key := range []string{"1 1", "2 1", "3 1", "4 1", "5 1", "8 1", "9 1", "10 1", "1 2", "3 2", "8 0", "10 0"} {
			if seen[key] == 0 {
				t.Fatalf("%d lines: of Kind and code %s there is none: %v", lines, key, seen)
			}
		}
	}
}

// spoilHouse writes into all that can be reached of a house, also into the spare room behind each list.
func spoilHouse(h impl.House) {
	spoilMemory(h.Memory)
	spoilBook(h.Book)
}

func spoilBook(book []impl.Entry) {
	book = book[:cap(book)]
	for i := range book {
		spoil(book[i].Data)
		book[i] = impl.Entry{Owner: 99, Sharers: 99, Busy: true, Kind: 99, From: 99, Left: 99, Mask: 99, Data: []int64{99}}
	}
}

func heardAnswer(h impl.House, m impl.Msg) houseAnswer {
	house, msgs, code := impl.Heard(h, m)
	return houseAnswer{house, msgs, code}
}

// checkOwnHouse asks, spoils what was answered, and looks at what was given; then asks again, spoils what was given, and looks at what was answered.
func checkOwnHouse(t *testing.T, h impl.House, m impl.Msg) {
	t.Helper()
	given, letter := roomyHouse(h), roomyLetter(m)
	was, wasLetter := pictureOfHouse(given), pictureOfLetter(letter)
	got := heardAnswer(given, letter)
	want := got.copied()
	spoilHouse(got.house)
	spoilNet(got.msgs)
	if pictureOfHouse(given) != was || pictureOfLetter(letter) != wasLetter {
		t.Errorf("Heard(%+v, %+v) answers with memory of an argument", h, m)
	}
	got = heardAnswer(given, letter)
	spoilHouse(given)
	spoil(letter.Data)
	if !got.same(want) {
		t.Errorf("Heard(%+v, %+v): what was answered changes with what was given", h, m)
	}
	checkHouseApart(t, h, m)
}

// listsOfHouse are all lists of numbers in an answer.
func listsOfHouse(a houseAnswer) [][]int64 {
	lists := slices.Clone(a.house.Memory)
	for _, e := range a.house.Book {
		lists = append(lists, e.Data)
	}
	for _, m := range a.msgs {
		lists = append(lists, m.Data)
	}
	return lists
}

// checkHouseApart writes into one list of an answer after the other, and behind it, and looks whether the others stay.
func checkHouseApart(t *testing.T, h impl.House, m impl.Msg) {
	t.Helper()
	lists := listsOfHouse(heardAnswer(h, m))
	for i := range lists {
		was := copied(lists)
		spoil(lists[i])
		for j := range lists {
			if j != i && !slices.Equal(lists[j], was[j]) {
				t.Errorf("Heard(%+v, %+v): lists %d and %d of the answer share memory", h, m, i, j)
			}
		}
		copy(lists[i], was[i])
	}
}

func TestHouseAnswersAreNewMemory(t *testing.T) {
	for e := range fewEntries {
		h := houseWith(3, 1, e)
		for _, m := range lettersOf(1) {
			if m.Flag <= 1 {
				checkOwnHouse(t, h, m)
			}
		}
		checkOwnHouse(t, h, impl.Msg{Kind: 1, Line: 3, Data: []int64{1, 2}})
		checkOwnHouse(t, h, impl.Msg{Kind: 16, Data: []int64{1, 2}})
		checkOwnHouse(t, h, impl.Msg{Kind: 8, Line: 1, Data: []int64{1}})
		checkOwnHouse(t, impl.House{Memory: h.Memory, Book: h.Book[:2]}, impl.Msg{Kind: 1, Data: []int64{1, 2}})
		stopIfFailed(t)
	}
	for _, r := range requestRows() {
		checkOwnHouse(t, houseWith(3, 1, r.was), r.m)
	}
}

// What is given may share memory, all with all: what is answered does not.
func TestHouseOfArgumentsThatShare(t *testing.T) {
	for e := range fewEntries {
		for _, m := range lettersOf(1) {
			if m.Flag > 1 || m.Kind > 10 {
				continue
			}
			one := []int64{31, 32}
			h := impl.House{Memory: [][]int64{one, one, one}, Book: []impl.Entry{putting(owner(1), 1, 1, one...), entryCopy(e), putting(owner(2), 1, 2, one...)}}
			h.Book[0].Data, h.Book[2].Data = one, one
			if h.Book[1].Kind == impl.KdPut {
				h.Book[1].Data = one
			}
			if len(m.Data) != 0 {
				m.Data = one
			}
			want := hears(houseCopy(h), letterCopy(m))
			if got := heardAnswer(h, m); !got.same(want) {
				t.Errorf("Heard(%+v, %+v) = %+v, want %+v", h, m, got, want)
			}
			if !slices.Equal(one, []int64{31, 32}) {
				t.Errorf("Heard(%+v, %+v) wrote into an argument", h, m)
			}
			checkHouseApart(t, h, m)
		}
		stopIfFailed(t)
	}
}

func TestHouseHoldsIsNewMemory(t *testing.T) {
	h := houseWith(2, 1, putting(sharers(0, 1, 2, 3), 4, 3, 5, 6))
	given := roomyHouse(h)
	was := pictureOfHouse(given)
	got, other := impl.Holds(given, 1), impl.Holds(given, 1)
	spoil(got)
	if pictureOfHouse(given) != was || !slices.Equal(other, []int64{0, 1, 2, 3}) || !slices.Equal(impl.Holds(given, 1), other) {
		t.Errorf("Holds answers with memory of the house, or two answers share theirs")
	}
}

// One house may hear many letters: it stays as it was, and each is answered as if it were the first.
func TestHouseStaysWhatWasHeard(t *testing.T) {
	h := roomyHouse(houseWith(2, 1, sharers(0, 2)))
	was := pictureOfHouse(h)
	for range 3 {
		for _, m := range lettersOf(1) {
			first, second := heardAnswer(h, m), heardAnswer(h, m)
			if !first.same(second) || pictureOfHouse(h) != was {
				t.Fatalf("Heard(%+v, %+v) is not the same twice", h, m)
			}
		}
	}
}
