package tests

import (
	"fmt"
	"math"
	"reflect"
	"slices"
	"strings"
	"testing"

	"loop.example/g00342/impl"
)

// fabricAnswer is all that Acted answers.
type fabricAnswer struct {
	fabric impl.Fabric
	is     bool
}

func sameEvent(a impl.Event, b impl.Event) bool {
	return a.Agent == b.Agent && a.Op == b.Op && a.Line == b.Line && a.Mask == b.Mask && slices.Equal(a.Data, b.Data) && a.Told == b.Told
}

func sameEvents(a []impl.Event, b []impl.Event) bool { return slices.EqualFunc(a, b, sameEvent) }

func sameFabric(a impl.Fabric, b impl.Fabric) bool {
	return a.Config == b.Config && sameHouse(a.House, b.House) && slices.EqualFunc(a.Cores, b.Cores, sameCore) && sameDma(a.Dma, b.Dma) && sameNet(a.Net, b.Net) && sameEvents(a.Events, b.Events)
}

func (a fabricAnswer) same(b fabricAnswer) bool {
	return sameFabric(a.fabric, b.fabric) && a.is == b.is
}

func stillFabric(f impl.Fabric) fabricAnswer { return fabricAnswer{fabric: f} }

func eventsCopy(list []impl.Event) []impl.Event {
	var fresh []impl.Event
	for _, e := range list {
		e.Data = slices.Clone(e.Data)
		fresh = append(fresh, e)
	}
	return fresh
}

// fabricCopy shares nothing with the fabric; it is without spare room.
func fabricCopy(f impl.Fabric) impl.Fabric {
	fresh := impl.Fabric{Config: f.Config, House: houseCopy(f.House), Dma: dmaCopy(f.Dma), Net: netCopy(f.Net), Events: eventsCopy(f.Events)}
	for _, c := range f.Cores {
		fresh.Cores = append(fresh.Cores, coreCopy(c))
	}
	return fresh
}

// roomyFabric gives a copy with spare room behind each list of it.
func roomyFabric(f impl.Fabric) impl.Fabric {
	wide := impl.Fabric{Config: f.Config, House: roomyHouse(f.House), Dma: roomyDma(f.Dma), Net: roomyNet(f.Net)}
	for _, c := range f.Cores {
		wide.Cores = append(wide.Cores, roomyCore(c))
	}
	wide.Cores = append(wide.Cores, idle(emptyStore(1, 1)))[:len(f.Cores)]
	for _, e := range f.Events {
		e.Data = roomy(e.Data)
		wide.Events = append(wide.Events, e)
	}
	wide.Events = append(wide.Events, impl.Event{Agent: -7}, impl.Event{Agent: -8})[:len(f.Events)]
	return wide
}

// pictureOfFabric tells all of a fabric, with the spare room behind each list and where each list stands.
func pictureOfFabric(f impl.Fabric) string {
	var told strings.Builder
	fmt.Fprintf(&told, "%v %p %p %s %s %s", f.Config, f.Cores, f.Events, pictureOfHouse(f.House), pictureOfDma(f.Dma), pictureOfNet(f.Net))
	for _, c := range f.Cores[:cap(f.Cores)] {
		told.WriteString(pictureOfCore(c))
	}
	for _, e := range f.Events[:cap(f.Events)] {
		fmt.Fprintf(&told, " %+v %p %v", e, e.Data, e.Data[:cap(e.Data)])
	}
	return told.String()
}

// layoutRight and the ones below are the chapter's text over again.
func layoutRight(c impl.Config) bool {
	return c.Cores >= 1 && c.Cores <= 4 && slices.Contains(rightSizes, c.Sets) && slices.Contains(rightSizes, c.Ways) && c.Lines >= 1 && c.Lines <= 16
}

func houseFits(c impl.Config, h impl.House) bool {
	if !houseRight(h) || int64(len(h.Memory)) != c.Lines {
		return false
	}
	for core := c.Cores; core <= 3; core++ {
		for _, e := range h.Book {
			if e.Owner == core || slices.Contains(sharerLists[e.Sharers], core) || e.From == core {
				return false
			}
		}
	}
	return true
}

func sizeFits(c impl.Config, store impl.Cache) bool {
	if int64(len(store.Sets)) != c.Sets || int64(len(store.Trees)) != c.Sets {
		return false
	}
	for _, set := range store.Sets {
		if int64(len(set)) != c.Ways {
			return false
		}
	}
	return true
}

func coreFits(c impl.Config, core impl.Core) bool {
	if !sizeFits(c, core.Cache) || !coreRight(core) || core.Held.Line >= c.Lines {
		return false
	}
	for _, set := range core.Cache.Sets {
		for _, w := range set {
			if w.Line >= c.Lines {
				return false
			}
		}
	}
	for _, o := range core.Program {
		if o.Addr >= 2*c.Lines {
			return false
		}
	}
	return true
}

func dmaFits(c impl.Config, d impl.Dma) bool {
	for _, one := range d.Program {
		if one.Line < 0 || one.Line >= c.Lines {
			return false
		}
	}
	return dmaRight(d)
}

func netFits(c impl.Config, net []impl.Msg) bool {
	for _, m := range net {
		for _, agent := range []int64{m.From, m.To} {
			if agent >= c.Cores && agent != 4 && agent != 5 {
				return false
			}
		}
		if !letterRight(m) || m.Line >= c.Lines {
			return false
		}
	}
	return len(net) <= 60
}

func opRight(o impl.Op) bool {
	for _, r := range opRows {
		if r.kind == o.Kind {
			return o.Addr >= 0 && o.Addr <= 31 && fieldRight(o.A, r.hasA) && fieldRight(o.B, r.hasB)
		}
	}
	return false
}

func eventRight(e impl.Event) bool {
	switch e.Agent {
	case 0, 1, 2, 3:
		return opRight(e.Op) && e.Line == 0 && e.Mask == 0 && len(e.Data) == 0
	case 5:
		return e.Op == (impl.Op{}) && e.Line >= 0 && e.Line <= 15 && e.Mask >= 0 && e.Mask <= 3 && rightWords(e.Data) && e.Told == 0
	}
	return false
}

func eventWrong(e impl.Event) bool { return !eventRight(e) }

func fabricRight(f impl.Fabric) bool {
	if !layoutRight(f.Config) || !houseFits(f.Config, f.House) || int64(len(f.Cores)) != f.Config.Cores {
		return false
	}
	for _, core := range f.Cores {
		if !coreFits(f.Config, core) {
			return false
		}
	}
	return dmaFits(f.Config, f.Dma) && netFits(f.Config, f.Net) && len(f.Events) <= 200 && !slices.ContainsFunc(f.Events, eventWrong)
}

// coreDid is the Event of an op that brought a core to its next one.
func coreDid(id int64, was impl.Core, then impl.Core) []impl.Event {
	if then.At == was.At {
		return nil
	}
	return []impl.Event{{Agent: id, Op: was.Program[was.At], Told: then.Told[was.At]}}
}

// portDid is the Event of what the DMA asked for, where it came to its end by this letter.
func portDid(was impl.House, m impl.Msg, then impl.House) []impl.Event {
	e := was.Book[m.Line]
	kind, mask, data := e.Kind, e.Mask, e.Data
	if !e.Busy {
		kind, mask, data = map[int64]int64{4: 3, 5: 4}[m.Kind], m.Flag, m.Data
	}
	if then.Book[m.Line].Busy || kind != 3 && kind != 4 {
		return nil
	}
	if kind == 3 {
		mask, data = 0, then.Memory[m.Line]
	}
	return []impl.Event{{Agent: 5, Line: m.Line, Mask: mask, Data: slices.Clone(data)}}
}

// takes gives letter k, which is First, to whom it goes.
func takes(f impl.Fabric, k int) (impl.Fabric, []impl.Msg, []impl.Event, bool) {
	m := f.Net[k]
	fresh := fabricCopy(f)
	fresh.Net = without(f.Net, k)
	switch m.To {
	case 4:
		got := hears(f.House, m)
		fresh.House = got.house
		if got.code != 1 {
			return fresh, nil, nil, false
		}
		return fresh, got.msgs, portDid(f.House, m, got.house), true
	case 5:
		got := dmaAnswers(f.Dma, m)
		fresh.Dma = got.dma
		return fresh, nil, nil, got.is
	}
	got := gets(f.Cores[m.To], m.To, m)
	fresh.Cores[m.To] = got.core
	return fresh, got.msgs, coreDid(m.To, f.Cores[m.To], got.core), got.code != 0
}

// tries does one action, whether or not there is room for what comes of it.
func tries(f impl.Fabric, action int64) (impl.Fabric, []impl.Msg, []impl.Event, bool) {
	fresh := fabricCopy(f)
	letter := int(action - f.Config.Cores - 1)
	switch {
	case action < f.Config.Cores:
		got := begins(f.Cores[action], action)
		fresh.Cores[action] = got.core
		return fresh, got.msgs, coreDid(action, f.Cores[action], got.core), got.code != 0
	case action == f.Config.Cores:
		got := dmaAsks(f.Dma)
		fresh.Dma = got.dma
		return fresh, got.msgs, nil, got.is
	case ahead(f.Net, letter):
		return fresh, nil, nil, false
	}
	return takes(f, letter)
}

// lastAction is that of the last letter, or of the DMA where there is none.
func lastAction(f impl.Fabric) int64 { return f.Config.Cores + int64(len(f.Net)) }

// acts is the chapter's text of Acted over again, of a right fabric.
func acts(f impl.Fabric, action int64) fabricAnswer {
	if action < 0 || action > lastAction(f) {
		return stillFabric(f)
	}
	fresh, msgs, events, is := tries(f, action)
	fresh.Net = append(fresh.Net, netCopy(msgs)...)
	fresh.Events = append(fresh.Events, events...)
	if !is || len(fresh.Net) > 60 || len(fresh.Events) > 200 {
		return stillFabric(f)
	}
	return fabricAnswer{fresh, true}
}

// enabledBy is the chapter's text of Enabled over again, of a right fabric.
func enabledBy(f impl.Fabric) []int64 {
	var list []int64
	for action := range lastAction(f) + 1 {
		if acts(f, action).is {
			list = append(list, action)
		}
	}
	return list
}

func checkFabricOk(t *testing.T, f impl.Fabric, want bool) {
	t.Helper()
	given := roomyFabric(f)
	was := pictureOfFabric(given)
	if got := impl.FabricOk(given); got != want {
		t.Errorf("FabricOk(%+v) = %v", f, got)
	}
	if pictureOfFabric(given) != was {
		t.Errorf("FabricOk(%+v) wrote into its argument", f)
	}
}

func checkEnabled(t *testing.T, f impl.Fabric, want ...int64) {
	t.Helper()
	given := roomyFabric(f)
	was := pictureOfFabric(given)
	if got := impl.Enabled(given); !slices.Equal(got, want) {
		t.Errorf("Enabled(%+v) = %v, want %v", f, got, want)
	}
	if pictureOfFabric(given) != was {
		t.Errorf("Enabled(%+v) wrote into its argument", f)
	}
}

func checkActed(t *testing.T, f impl.Fabric, action int64, want fabricAnswer) {
	t.Helper()
	given := roomyFabric(f)
	was := pictureOfFabric(given)
	fabric, is := impl.Acted(given, action)
	if got := (fabricAnswer{fabric, is}); !got.same(want) {
		t.Errorf("Acted(%+v, %d) = %+v, want %+v", f, action, got, want)
	}
	if pictureOfFabric(given) != was {
		t.Errorf("Acted(%+v, %d) wrote into its argument", f, action)
	}
}

// farActions are beside those of whatever fabric there may be; less some Cores they would wrap round into them.
var farActions = []int64{math.MinInt64, math.MinInt64 + 1, math.MinInt64 + 2, math.MinInt64 + 3, math.MinInt64 + 4, math.MinInt64 + 5, math.MinInt64 / 2, -1 << 32, -65, -5, -2, -1, 65, 66, 255, 256, 257, 1 << 32, 1<<32 + 1, 1<<32 + 3, math.MaxInt64 / 2, math.MaxInt64 - 1, math.MaxInt64}

// checkFabric is promise 15 of one right fabric: just what is Enabled is done, as the text over again does it, and what comes of it is right. It hands back what is Enabled.
func checkFabric(t *testing.T, f impl.Fabric) []int64 {
	t.Helper()
	given := roomyFabric(f)
	was := pictureOfFabric(given)
	if !fabricRight(f) || !impl.FabricOk(given) {
		t.Fatalf("it is not right: %+v", f)
	}
	enabled := impl.Enabled(given)
	var want []int64
	for action := int64(-1); action <= lastAction(f)+2; action++ {
		answer := acts(f, action)
		if answer.is {
			want = append(want, action)
		}
		got, is := impl.Acted(given, action)
		if !answer.same(fabricAnswer{got, is}) {
			t.Errorf("Acted(%+v, %d) = %+v, %v, want %+v", f, action, got, is, answer)
		}
		if !fabricRight(got) || !impl.FabricOk(got) {
			t.Errorf("of action %d of %+v came a fabric that is not right: %+v", action, f, got)
		}
	}
	if !slices.Equal(enabled, want) {
		t.Errorf("Enabled(%+v) = %v, want %v", f, enabled, want)
	}
	if pictureOfFabric(given) != was {
		t.Errorf("%+v was written into", f)
	}
	return want
}

// checkNoFabric asks all of a fabric that is not right.
func checkNoFabric(t *testing.T, why string, f impl.Fabric) {
	t.Helper()
	if fabricRight(f) {
		t.Fatalf("%s: it is right: %+v", why, f)
	}
	given := roomyFabric(f)
	was := pictureOfFabric(given)
	if impl.FabricOk(given) {
		t.Errorf("%s: FabricOk(%+v)", why, f)
	}
	if got := impl.Enabled(given); len(got) != 0 {
		t.Errorf("%s: Enabled(%+v) = %v", why, f, got)
	}
	for _, action := range []int64{math.MinInt64, -1, 0, 1, 2, 3, 4, 5, 6, math.MaxInt64} {
		if got, is := impl.Acted(given, action); is || !sameFabric(got, impl.Fabric{}) {
			t.Errorf("%s: Acted(%+v, %d) = %+v, %v", why, f, action, got, is)
		}
	}
	if pictureOfFabric(given) != was {
		t.Errorf("%s: the fabric was written into: %+v", why, f)
	}
	stopIfFailed(t)
}

// newBy is the chapter's text of NewFabric over again, where nothing is refused.
func newBy(c impl.Config, programs [][]impl.Op, list []impl.Desc) impl.Fabric {
	f := impl.Fabric{Config: c, Dma: impl.Dma{Program: list}}
	for range c.Lines {
		f.House.Memory = append(f.House.Memory, []int64{0, 0})
		f.House.Book = append(f.House.Book, nobody())
	}
	for _, program := range programs {
		f.Cores = append(f.Cores, idle(emptyStore(c.Sets, c.Ways), program...))
	}
	return fabricCopy(f)
}

func roomyPrograms(programs [][]impl.Op) [][]impl.Op {
	var wide [][]impl.Op
	for _, p := range programs {
		wide = append(wide, roomyOps(p))
	}
	return append(wide, spareOps)[:len(programs)]
}

func checkNewFabric(t *testing.T, c impl.Config, programs [][]impl.Op, list []impl.Desc, code int64) {
	t.Helper()
	want := impl.Fabric{}
	if code == impl.PgOk {
		want = newBy(c, programs, list)
	}
	given, givenDescs := roomyPrograms(programs), roomyDescs(list)
	got, is := impl.NewFabric(c, given, givenDescs)
	if !sameFabric(got, want) || is != code {
		t.Errorf("NewFabric(%+v, %+v, %+v) = %+v, %d, want %d", c, programs, list, got, is, code)
	}
	if impl.FabricOk(got) != (code == impl.PgOk) {
		t.Errorf("NewFabric(%+v, %+v, %+v): FabricOk of it is %v", c, programs, list, code != impl.PgOk)
	}
	if !untouchedDescs(givenDescs, list) || !slices.EqualFunc(given, programs, untouchedOps) || !slices.Equal(given[:len(programs)+1][len(programs)], spareOps) {
		t.Errorf("NewFabric(%+v, %+v, %+v) wrote into an argument", c, programs, list)
	}
}

// opsIn is a list of this length of right ops of all Kinds, in these Lines.
func opsIn(lines int64, length int) []impl.Op {
	list := manyOps(length)
	for i := range list {
		list[i].Addr %= 2 * lines
	}
	return list
}

// descsIn is a list of this length of right Descs, in these Lines.
func descsIn(lines int64, length int) []impl.Desc {
	list := manyDescs(length)
	for i := range list {
		list[i].Line %= lines
	}
	return list
}

func TestFabricNewOfEveryLayout(t *testing.T) {
	lengths := []int{0, 30, 1, 29, 2, 7}
	turn := 0
	for c := range everyLayout {
		var programs [][]impl.Op
		for range c.Cores {
			turn++
			programs = append(programs, opsIn(c.Lines, lengths[turn%len(lengths)]))
		}
		list := descsIn(c.Lines, lengths[turn/2%len(lengths)])
		checkNewFabric(t, c, programs, list, impl.PgOk)
		var want []int64
		for core, program := range programs {
			if len(program) > 0 {
				want = append(want, int64(core))
			}
		}
		if len(list) > 0 {
			want = append(want, c.Cores)
		}
		f, _ := impl.NewFabric(c, programs, list)
		checkEnabled(t, f, want...)
		stopIfFailed(t)
	}
}

// The most that a fabric can have: all in it is right, and so is one more of nothing.
func TestFabricNewOfTheMost(t *testing.T) {
	programs := [][]impl.Op{manyOps(30), manyOps(30), manyOps(30), manyOps(30)}
	c := impl.Config{Cores: 4, Sets: 4, Ways: 4, Lines: 16}
	checkNewFabric(t, c, programs, manyDescs(30), impl.PgOk)
	checkNewFabric(t, c, programs, manyDescs(31), impl.PgLong)
	for i := range programs {
		longer := slices.Clone(programs)
		longer[i] = manyOps(31)
		checkNewFabric(t, c, longer, manyDescs(30), impl.PgLong)
	}
}

func TestFabricNewByHand(t *testing.T) {
	c := impl.Config{Cores: 2, Sets: 1, Ways: 2, Lines: 3}
	right, long := []impl.Op{load(5), store(0)}, opsIn(3, 31)
	wrong, outside := []impl.Op{load(0), {Kind: 6}}, []impl.Op{load(6), store(0)}
	both := []impl.Op{load(6), {Kind: 6}}
	rows := []struct {
		programs [][]impl.Op
		list     []impl.Desc
		code     int64
	}{
		{[][]impl.Op{right, right}, nil, impl.PgOk},
		{[][]impl.Op{nil, nil}, nil, impl.PgOk},
		{[][]impl.Op{{}, nil}, []impl.Desc{}, impl.PgOk},
		{[][]impl.Op{nil, right}, []impl.Desc{readOf(2), writeOf(0, 3, 1, 2)}, impl.PgOk},
		{[][]impl.Op{long, right}, nil, impl.PgLong},
		{[][]impl.Op{right, long}, nil, impl.PgLong},
		{[][]impl.Op{right, wrong}, nil, impl.PgOp},
		{[][]impl.Op{outside, right}, nil, impl.PgAddr},
		{[][]impl.Op{both, right}, nil, impl.PgOp},
		{[][]impl.Op{right, right}, descsIn(3, 31), impl.PgLong},
		{[][]impl.Op{right, right}, []impl.Desc{{Mask: 1}}, impl.PgDesc},
		{[][]impl.Op{right, right}, []impl.Desc{readOf(3)}, impl.PgAddr},
		{[][]impl.Op{right, right}, []impl.Desc{readOf(3), {Mask: 1}}, impl.PgDesc},
		{[][]impl.Op{outside, wrong}, []impl.Desc{{Mask: 1}}, impl.PgAddr},
		{[][]impl.Op{wrong, outside}, []impl.Desc{{Mask: 1}}, impl.PgOp},
		{[][]impl.Op{wrong, long}, nil, impl.PgOp},
		{[][]impl.Op{long, wrong}, descsIn(3, 31), impl.PgLong},
		{[][]impl.Op{right, outside}, []impl.Desc{{Mask: 1}}, impl.PgAddr},
		{[][]impl.Op{right, wrong}, descsIn(3, 31), impl.PgOp},
		{nil, nil, impl.PgConfig},
		{[][]impl.Op{}, nil, impl.PgConfig},
		{[][]impl.Op{right}, nil, impl.PgConfig},
		{[][]impl.Op{nil}, nil, impl.PgConfig},
		{[][]impl.Op{nil, nil, nil}, nil, impl.PgConfig},
		{[][]impl.Op{right, right, right}, []impl.Desc{readOf(1)}, impl.PgConfig},
	}
	for _, r := range rows {
		checkNewFabric(t, c, r.programs, r.list, r.code)
		for _, bad := range noLayouts {
			checkNewFabric(t, bad, r.programs, r.list, impl.PgConfig)
		}
	}
}

func firstRefusal(codes []int64) int64 {
	for _, code := range codes {
		if code != impl.PgOk {
			return code
		}
	}
	return impl.PgOk
}

// Each program and the Descs are right, too long, wrong or outside, all with all: the first that is refused tells the code.
func TestFabricNewFirstCode(t *testing.T) {
	const lines = 3
	programs := [][]impl.Op{opsIn(lines, 3), opsIn(lines, 31), {load(0), {Kind: 6}}, {load(2 * lines), store(1)}}
	programCodes := []int64{impl.PgOk, impl.PgLong, impl.PgOp, impl.PgAddr}
	lists := [][]impl.Desc{descsIn(lines, 3), descsIn(lines, 31), {readOf(0), {Mask: 1}}, {readOf(lines), readOf(0)}}
	descCodes := []int64{impl.PgOk, impl.PgLong, impl.PgDesc, impl.PgAddr}
	for cores := range 4 {
		c := impl.Config{Cores: int64(cores) + 1, Sets: 2, Ways: 1, Lines: lines}
		for picks := range everyList(cores+2, 0, 3) {
			var chosen [][]impl.Op
			var codes []int64
			for _, pick := range picks[1:] {
				chosen = append(chosen, programs[pick])
				codes = append(codes, programCodes[pick])
			}
			codes = append(codes, descCodes[picks[0]])
			checkNewFabric(t, c, chosen, lists[picks[0]], firstRefusal(codes))
		}
		stopIfFailed(t)
	}
}

func TestFabricNewOfWrongCounts(t *testing.T) {
	for cores := int64(-1); cores <= 6; cores++ {
		for count := range 8 {
			for _, program := range [][]impl.Op{nil, opsIn(2, 3), opsIn(2, 31), {{}}, {load(31)}} {
				c := impl.Config{Cores: cores, Sets: 1, Ways: 1, Lines: 2}
				programs := slices.Repeat([][]impl.Op{program}, count)
				if int64(count) == cores && cores >= 1 && cores <= 4 {
					continue
				}
				for _, list := range [][]impl.Desc{nil, descsIn(2, 2), descsIn(2, 31), {{Mask: 1}}, {readOf(2)}} {
					checkNewFabric(t, c, programs, list, impl.PgConfig)
				}
			}
		}
	}
	c := impl.Config{Cores: 4, Sets: 1, Ways: 1, Lines: 2}
	for _, count := range []int{5, 8, 260, 100000} {
		if f, code := impl.NewFabric(c, make([][]impl.Op, count), nil); code != impl.PgConfig || !sameFabric(f, impl.Fabric{}) {
			t.Errorf("4 Cores and %d programs: %d", count, code)
		}
	}
	for _, n := range farNumbers {
		if f, code := impl.NewFabric(impl.Config{Cores: n, Sets: n, Ways: n, Lines: n}, nil, nil); code != impl.PgConfig || !sameFabric(f, impl.Fabric{}) {
			t.Errorf("a layout of %d: %d", n, code)
		}
	}
}

// threeCores is a layout in which a core, lines and addresses are out of it that would be right elsewhere.
var threeCores = impl.Config{Cores: 3, Sets: 2, Ways: 2, Lines: 5}

// mixedFabric is a right fabric of that layout amidst its work: one core waits, one evicts, one is idle, the DMA waits, letters are on their way, and something was done.
func mixedFabric() impl.Fabric {
	shelf := emptyStore(2, 2)
	f := impl.Fabric{
		Config: threeCores,
		House: impl.House{Memory: unlikeWords(5), Book: []impl.Entry{
			nobody(), owner(2), busy(sharers(0, 1), 2, 2, 2), putting(owner(1), 1, 2, 71, 72), sharers(0, 2),
		}},
		Cores: []impl.Core{
			behindLoads(8, waiting(withWay(shelf, 0, 1, wayOf(4, 1, 1080, 1087)), load(9), store(2)), 5),
			evicting(withWay(shelf, 1, 0, wayOf(3, 3, 8, 9)), wayOf(2, 1, 1040, 1047), load(8)),
			idle(withTree(withWay(withWay(shelf, 1, 0, wayOf(1, 2, 1020, 1027)), 0, 1, wayOf(4, 1, 1080, 1087)), 0, 1), load(2), store(3)),
		},
		Dma: impl.Dma{Program: []impl.Desc{readOf(4), writeOf(3, 2, 71, 72), readOf(0)}, At: 1, Waits: true, Told: [][]int64{{1080, 1087}}},
		Net: []impl.Msg{
			{Road: 0, From: 0, To: 4, Kind: impl.MsWrite, Line: 1},
			{Road: 0, From: 1, To: 4, Kind: impl.MsPut, Line: 2},
			invalidTo(0, 2), invalidTo(1, 2), invalidTo(1, 3),
			{Road: 0, From: 5, To: 4, Kind: impl.MsSnap, Line: 0},
		},
		Events: []impl.Event{{Agent: 5, Line: 4, Data: []int64{1080, 1087}}, {Agent: 0, Op: load(8), Told: 5}},
	}
	return fabricCopy(f)
}

// behindLoads is the core when it has loaded this address already, as often as it tells a number.
func behindLoads(addr int64, c impl.Core, said ...int64) impl.Core {
	c = behind(c, said...)
	for i := range said {
		c.Program[i] = load(addr)
	}
	return c
}

func TestFabricMixed(t *testing.T) {
	f := mixedFabric()
	checkFabric(t, f)
	// The DMA waits, so action 3 does nothing; line 2 is Busy, so letter 1 waits; letter 4 is behind letter 3 on one road.
	checkEnabled(t, f, 2, 4, 6, 7, 9)
}

// wrongFabric is one that would be right but for this.
type wrongFabric struct {
	why  string
	turn func(f *impl.Fabric)
}

func checkWrongFabrics(t *testing.T, rows []wrongFabric) {
	t.Helper()
	for _, r := range rows {
		f := mixedFabric()
		r.turn(&f)
		checkNoFabric(t, r.why, f)
	}
}

func TestFabricOfWrongLayouts(t *testing.T) {
	for _, bad := range noLayouts {
		f := mixedFabric()
		f.Config = bad
		checkNoFabric(t, "a layout that is not right", f)
	}
	for c := range everyLayout {
		f := mixedFabric()
		f.Config = c
		if c != threeCores {
			checkNoFabric(t, "another layout", f)
		}
	}
	for _, n := range slices.Concat(farNumbers, []int64{0, 3, 5, 8, 17}) {
		for _, field := range fieldsOfLayout() {
			f := mixedFabric()
			field.put(&f.Config, n)
			if f.Config != threeCores {
				checkNoFabric(t, "one field of the layout is another one", f)
			}
		}
	}
}

func TestFabricOfWrongHouses(t *testing.T) {
	for _, lines := range []int{0, 1, 4, 6, 15, 16, 17} {
		f := mixedFabric()
		f.House = impl.House{Memory: unlikeWords(lines)}
		for range lines {
			f.House.Book = append(f.House.Book, nobody())
		}
		checkNoFabric(t, "a house of other lines", f)
	}
	checkWrongFabrics(t, []wrongFabric{
		{"no house", func(f *impl.Fabric) { f.House = impl.House{} }},
		{"no memory", func(f *impl.Fabric) { f.House.Memory = nil }},
		{"no book", func(f *impl.Fabric) { f.House.Book = nil }},
		{"an entry too few", func(f *impl.Fabric) { f.House.Book = f.House.Book[:4] }},
		{"a line too few", func(f *impl.Fabric) { f.House.Memory = f.House.Memory[:4] }},
		{"a word too great", func(f *impl.Fabric) { f.House.Memory[4][1] = 10000 }},
		{"a word below 0", func(f *impl.Fabric) { f.House.Memory[0][0] = -1 }},
		{"a line without words", func(f *impl.Fabric) { f.House.Memory[2] = nil }},
		{"an Owner and Sharers", func(f *impl.Fabric) { f.House.Book[1].Sharers = 1 }},
		{"the zero Entry beside a Sharer", func(f *impl.Fabric) { f.House.Book[4].Owner = 0 }},
		{"not Busy, with a Kind", func(f *impl.Fabric) { f.House.Book[0].Kind = 1 }},
		{"too many answers", func(f *impl.Fabric) { f.House.Book[2].Left = 5 }},
		{"a far Owner", func(f *impl.Fabric) { f.House.Book[1].Owner = math.MaxInt64 }},
		{"far Sharers", func(f *impl.Fabric) { f.House.Book[2].Sharers = math.MinInt64 }},
	})
}

// A core in the Book that there is not: as Owner, among the Sharers, and as who asks; of each number of Cores and at each line.
func TestFabricOfCoresInTheBook(t *testing.T) {
	for cores := int64(1); cores <= 4; cores++ {
		c := impl.Config{Cores: cores, Sets: 1, Ways: 1, Lines: 3}
		for line := range int64(3) {
			for e, holders := range everyEntry {
				f := newBy(c, make([][]impl.Op, cores), nil)
				f.House.Book[line] = e
				want := e.From < cores || e.From == 5
				for _, core := range holders {
					want = want && core < cores
				}
				if impl.FabricOk(f) != want {
					t.Fatalf("of %d Cores: FabricOk(%+v) = %v", cores, f, !want)
				}
			}
		}
	}
	checkWrongFabrics(t, []wrongFabric{
		{"Owner 3 of three", func(f *impl.Fabric) { f.House.Book[1].Owner = 3 }},
		{"Sharer 3 of three", func(f *impl.Fabric) { f.House.Book[4].Sharers = 8 }},
		{"Sharer 3 of three among others", func(f *impl.Fabric) { f.House.Book[4].Sharers = 13 }},
		{"core 3 of three asks to write", func(f *impl.Fabric) { f.House.Book[2].From = 3 }},
		{"core 3 of three asks to read", func(f *impl.Fabric) { f.House.Book[0] = busy(nobody(), 1, 3, 0) }},
	})
}

func TestFabricOfWrongCores(t *testing.T) {
	for count := range 8 {
		f := mixedFabric()
		f.Cores = slices.Repeat(f.Cores[2:], count)
		if count != 3 {
			checkNoFabric(t, fmt.Sprintf("%d Cores", count), f)
		}
	}
	f := mixedFabric()
	f.Cores = slices.Repeat(f.Cores[2:], 100000)
	if impl.FabricOk(f) {
		t.Errorf("100000 Cores are 3")
	}
	for id := range 3 {
		for sets, ways := range everySize {
			if sets == 2 && ways == 2 {
				continue
			}
			f := mixedFabric()
			f.Cores[id] = idle(emptyStore(sets, ways), load(1))
			checkNoFabric(t, fmt.Sprintf("core %d has %d Sets of %d Ways", id, sets, ways), f)
		}
		for _, program := range [][]impl.Op{{load(10)}, {load(11)}, {load(31)}, {load(9), store(10)}, opsIn(5, 31), {{}}, {load(32)}, {load(-1)}, {load(math.MaxInt64)}} {
			f := mixedFabric()
			f.Cores[id] = idle(emptyStore(2, 2), program...)
			checkNoFabric(t, fmt.Sprintf("core %d has a program that is refused", id), f)
		}
		for _, core := range []impl.Core{
			{}, {Cache: emptyStore(2, 2)},
			idle(withTree(emptyStore(2, 2), 0, 2)), idle(withWay(emptyStore(2, 2), 0, 0, wayOf(1, 1, 1, 2))), idle(withWay(emptyStore(2, 2), 0, 0, wayOf(0, 4, 1, 2))),
			waiting(emptyStore(2, 2)), evicting(emptyStore(2, 2), empty()), {Cache: emptyStore(2, 2), Held: empty(), At: 1}, {Cache: emptyStore(2, 2), Held: empty(), Told: []int64{1}},
			{Cache: emptyStore(2, 2), Held: empty(), Phase: 3}, {Cache: emptyStore(2, 2), Held: empty(), At: math.MinInt64}, idle(impl.Cache{Sets: emptyStore(2, 2).Sets}),
		} {
			f := mixedFabric()
			f.Cores[id] = core
			checkNoFabric(t, fmt.Sprintf("core %d is not right", id), f)
		}
	}
}

// A line out of the Lines, in each Way of a Cache and Held in each State; the last line of the Lines is right there.
func TestFabricOfLinesInCores(t *testing.T) {
	for lines := int64(1); lines <= 16; lines++ {
		for sets, ways := range everySize {
			c := impl.Config{Cores: 2, Sets: sets, Ways: ways, Lines: lines}
			for line := range int64(16) {
				for way := range ways {
					f := newBy(c, make([][]impl.Op, 2), nil)
					f.Cores[1].Cache.Sets[line%sets][way] = wayOf(line, 1+line%3, 5, 6)
					if impl.FabricOk(f) != (line < lines) {
						t.Fatalf("of %d Lines: FabricOk(%+v) = %v", lines, f, line >= lines)
					}
				}
				for state := range int64(4) {
					f := newBy(c, make([][]impl.Op, 2), nil)
					f.Cores[0].Phase, f.Cores[0].Held = impl.PhEvict, wayOf(line, state, 5, 6)
					if state == impl.StI {
						f.Cores[0].Held.Data = nil
					}
					if impl.FabricOk(f) != (line < lines) {
						t.Fatalf("of %d Lines: FabricOk(%+v) = %v", lines, f, line >= lines)
					}
				}
			}
		}
	}
	checkWrongFabrics(t, []wrongFabric{
		{"line 5 of five in a Cache", func(f *impl.Fabric) { f.Cores[0].Cache.Sets[1][1] = wayOf(5, 1, 1, 2) }},
		{"line 15 of five in a Cache", func(f *impl.Fabric) { f.Cores[2].Cache.Sets[1][1] = wayOf(15, 3, 1, 2) }},
		{"line 6 of five Held", func(f *impl.Fabric) { f.Cores[1].Held.Line = 6 }},
		{"line 5 of five Held, let go", func(f *impl.Fabric) { f.Cores[1].Held = wayOf(5, 0) }},
	})
}

func TestFabricOfWrongDmas(t *testing.T) {
	for _, bad := range wrongDescs() {
		f := mixedFabric()
		f.Dma = impl.Dma{Program: []impl.Desc{readOf(1), bad}}
		checkNoFabric(t, "a Desc that is not right", f)
	}
	for _, line := range slices.Concat([]int64{5, 6, 15, 16}, noLineNumbers) {
		for _, bad := range []impl.Desc{readOf(line), writeOf(line, 1, 5, 6)} {
			f := mixedFabric()
			f.Dma = impl.Dma{Program: []impl.Desc{readOf(4), bad}}
			checkNoFabric(t, "a Desc out of the Lines", f)
			f.Dma = impl.Dma{Program: []impl.Desc{bad, readOf(4)}, At: 2, Told: toldOf([]impl.Desc{bad, readOf(4)}, 2)}
			checkNoFabric(t, "a Desc out of the Lines that is done", f)
		}
	}
	checkWrongFabrics(t, []wrongFabric{
		{"31 Descs", func(f *impl.Fabric) { f.Dma = impl.Dma{Program: descsIn(5, 31)} }},
		{"At below 0", func(f *impl.Fabric) { f.Dma.At = -1 }},
		{"At past the end", func(f *impl.Fabric) { f.Dma.At = 4 }},
		{"a far At", func(f *impl.Fabric) { f.Dma.At = math.MaxInt64 }},
		{"too little told", func(f *impl.Fabric) { f.Dma.Told = nil }},
		{"too much told", func(f *impl.Fabric) { f.Dma.Told = [][]int64{{1, 2}, {}} }},
		{"of a read nothing told", func(f *impl.Fabric) { f.Dma.Told[0] = nil }},
		{"it waits for nothing", func(f *impl.Fabric) { f.Dma = impl.Dma{Waits: true} }},
	})
}

// Letters from and to each agent, of each number of Cores, and of each line.
func TestFabricOfLetters(t *testing.T) {
	for cores := int64(1); cores <= 4; cores++ {
		for _, lines := range []int64{1, 2, 5, 15, 16} {
			c := impl.Config{Cores: cores, Sets: 1, Ways: 1, Lines: lines}
			for from := int64(-1); from <= 6; from++ {
				for to := int64(-1); to <= 6; to++ {
					for line := int64(-1); line <= 16; line++ {
						there := func(agent int64) bool { return agent >= 0 && agent < cores || agent == 4 || agent == 5 }
						want := there(from) && there(to) && line >= 0 && line < lines
						f := newBy(c, make([][]impl.Op, cores), nil)
						m := impl.Msg{Road: 1, From: from, To: to, Kind: 14, Line: line}
						f.Net = []impl.Msg{{Kind: 15}, m}
						if impl.FabricOk(f) != want {
							t.Fatalf("of %d Cores and %d Lines: %+v is in a right net: %v", cores, lines, m, !want)
						}
					}
				}
			}
		}
	}
	for m := range wrongLetters {
		for k := range 6 {
			f := mixedFabric()
			f.Net[k] = m
			checkNoFabric(t, "a letter that is not right", f)
		}
	}
	checkWrongFabrics(t, []wrongFabric{
		{"a letter from core 3 of three", func(f *impl.Fabric) { f.Net[0].From = 3 }},
		{"a letter to core 3 of three", func(f *impl.Fabric) { f.Net[2].To = 3 }},
		{"a letter of line 5 of five", func(f *impl.Fabric) { f.Net[5].Line = 5 }},
		{"61 letters", func(f *impl.Fabric) { f.Net = idleLetters(61) }},
		{"many letters", func(f *impl.Fabric) { f.Net = idleLetters(1000) }},
		{"the zero letter", func(f *impl.Fabric) { f.Net = []impl.Msg{{}} }},
	})
}

// idleLetters are right ones that nobody listens to, none like another; they stand on roads from 5 to 5, which nothing else goes by.
func idleLetters(count int) []impl.Msg {
	var net []impl.Msg
	for i := range int64(count) {
		net = append(net, impl.Msg{Road: i % 3, From: 5, To: 5, Kind: 14, Data: []int64{i % 10000, 7}})
	}
	return net
}

func TestFabricOfEachCountOfLetters(t *testing.T) {
	for count := range 64 {
		f := mixedFabric()
		f.Net = idleLetters(count)
		if count > 60 {
			checkNoFabric(t, "too many letters", f)
		} else {
			checkFabricOk(t, f, true)
		}
	}
}

// someEvents are this many right ones, some of a core or of a line that a small layout does not have.
func someEvents(count int) []impl.Event {
	kinds := []impl.Event{
		{Agent: 1, Op: store(3)}, {Agent: 5, Line: 2, Mask: 3, Data: []int64{5, 6}}, {Agent: 0, Op: load(1), Told: 77}, {Agent: 5, Line: 1, Data: []int64{0, 9999}},
		{Agent: 3, Op: load(31)}, {Agent: 5, Line: 15, Mask: 1, Data: []int64{9999, 0}}, {Agent: 2, Op: impl.Op{Kind: impl.OpCas, Addr: 9, A: 9999, B: 1}, Told: math.MinInt64},
	}
	var list []impl.Event
	for i := range count {
		list = append(list, kinds[i%len(kinds)])
	}
	return eventsCopy(list)
}

func TestFabricOfEachCountOfEvents(t *testing.T) {
	for _, count := range []int{0, 1, 2, 100, 198, 199, 200} {
		f := mixedFabric()
		f.Events = someEvents(count)
		checkFabric(t, f)
	}
	for _, count := range []int{201, 202, 255, 256, 400, 10000} {
		f := mixedFabric()
		f.Events = someEvents(count)
		checkNoFabric(t, "too many Events", f)
	}
}

// wrongEvent is one that would be right but for this.
type wrongEvent struct {
	why string
	e   impl.Event
}

// wrongFabricEvents has Events that are none, for each reason.
func wrongFabricEvents() []wrongEvent {
	words := []int64{1, 2}
	rows := []wrongEvent{
		{"the zero Event", impl.Event{}},
		{"of a core and of the DMA at once", impl.Event{Agent: 0, Op: store(1), Line: 1, Mask: 1, Data: words}},
		{"of the DMA, a core's", impl.Event{Agent: 5, Op: store(1), Told: 1}},
		{"of a core, the DMA's", impl.Event{Agent: 0, Line: 1, Mask: 1, Data: words}},
		{"of a core, no Op but something told", impl.Event{Agent: 1, Told: 5}},
		{"of the DMA, nothing", impl.Event{Agent: 5}},
		{"of the DMA, a write without Data", impl.Event{Agent: 5, Line: 1, Mask: 3}},
	}
	for _, agent := range slices.Concat(farFields, []int64{-3, -5, 4, 6, 7, 8, 15}) {
		rows = append(rows, wrongEvent{"of nobody, as of a core", impl.Event{Agent: agent, Op: store(1)}},
			wrongEvent{"of nobody, as a read of the DMA", impl.Event{Agent: agent, Line: 1, Data: words}},
			wrongEvent{"of nobody, as a write of the DMA", impl.Event{Agent: agent, Line: 1, Mask: 1, Data: words}})
	}
	for id := range int64(4) {
		for _, o := range wrongOps {
			rows = append(rows, wrongEvent{"of a core, an Op that is none", impl.Event{Agent: id, Op: o}})
		}
		for _, n := range slices.Concat(farFields, []int64{1, 15}) {
			rows = append(rows, wrongEvent{"of a core, with a Line", impl.Event{Agent: id, Op: load(1), Line: n}}, wrongEvent{"of a core, with a Mask", impl.Event{Agent: id, Op: load(1), Mask: n}})
		}
		for _, l := range [][]int64{words, {0, 0}, {0}, {1, 2, 3}} {
			rows = append(rows, wrongEvent{"of a core, with Data", impl.Event{Agent: id, Op: load(1), Data: l}})
		}
	}
	for mask := range int64(4) {
		right := impl.Event{Agent: 5, Line: 4, Mask: mask, Data: words}
		for _, o := range slices.Concat(wrongOps[1:], []impl.Op{load(0), store(9), {Addr: 1}, {A: 1}, {B: 1}}) {
			e := right
			e.Op = o
			rows = append(rows, wrongEvent{"of the DMA, with an Op", e})
		}
		for _, n := range slices.Concat(farNumbers, []int64{-1, 1, 9999}) {
			e := right
			e.Told = n
			rows = append(rows, wrongEvent{"of the DMA, with what an Op told", e})
		}
		for _, n := range noLineNumbers {
			e := right
			e.Line = n
			rows = append(rows, wrongEvent{"of the DMA, a Line that is none", e})
		}
		for l := range noLines {
			e := right
			e.Data = l
			rows = append(rows, wrongEvent{"of the DMA, Data that is no line", e})
		}
	}
	for _, n := range wrongMasks {
		rows = append(rows, wrongEvent{"of the DMA, a Mask that is none", impl.Event{Agent: 5, Line: 4, Mask: n, Data: words}})
	}
	return rows
}

// One Event that is none makes the fabric wrong, wherever it stands: alone, first, amidst others, last of several, and last of as many as there may be.
func TestFabricOfWrongEvents(t *testing.T) {
	for i, r := range wrongFabricEvents() {
		places := [][2]int{{1, 0}, {3, 2}}
		if i%10 == 0 {
			places = append(places, [2]int{3, 0}, [2]int{3, 1}, [2]int{200, 100}, [2]int{200, 199})
		}
		for _, place := range places {
			f := mixedFabric()
			f.Events = someEvents(place[0])
			checkFabricOk(t, f, true)
			f.Events[place[1]] = r.e
			checkNoFabric(t, fmt.Sprintf("Event %d of %d %s", place[1], place[0], r.why), f)
		}
	}
	f := mixedFabric()
	f.Events = append(someEvents(200), impl.Event{})
	checkNoFabric(t, "one too many, which is none", f)
}

// Each field of an Event with each other one: just what the chapter tells of a core, or of the DMA, is an Event.
func TestFabricOfEachEvent(t *testing.T) {
	f := newBy(impl.Config{Cores: 1, Sets: 1, Ways: 1, Lines: 1}, [][]impl.Op{{load(0)}}, nil)
	seen := map[bool]int{}
	for agent := int64(-1); agent <= 7; agent++ {
		for _, o := range []impl.Op{{}, load(0), load(31), {Kind: impl.OpCas, Addr: 3, A: 9999, B: 9999}, load(32), {Kind: 9}, {Addr: 1}} {
			for _, line := range []int64{-1, 0, 1, 15, 16} {
				for mask := int64(-1); mask <= 4; mask++ {
					for _, words := range [][]int64{nil, {}, {0, 0}, {9999, 1}, {1}, {1, 10000}} {
						for _, said := range []int64{0, 1, -1} {
							e := impl.Event{Agent: agent, Op: o, Line: line, Mask: mask, Data: words, Told: said}
							f.Events = []impl.Event{e}
							want := eventRight(e)
							seen[want]++
							if impl.FabricOk(f) != want {
								t.Fatalf("%+v is an Event: %v", e, !want)
							}
						}
					}
				}
			}
		}
	}
	if seen[true] != 4*3*2*3+3*4*2 {
		t.Errorf("%d are Events", seen[true])
	}
}

// Of the layout nothing is asked of an Event, nor of the number that was told: of any core, any address and any line, whatever the Cores and Lines are.
func TestFabricOfEventsOutOfTheLayout(t *testing.T) {
	var list []impl.Event
	for id := range int64(4) {
		for r, o := range someOps {
			if r.hasB && o.A != 9999 {
				continue
			}
			list = append(list, impl.Event{Agent: id, Op: o, Told: farNumbers[len(list)%len(farNumbers)]})
		}
	}
	for line := range int64(16) {
		for mask := range int64(4) {
			for l := range someLines {
				list = append(list, impl.Event{Agent: 5, Line: line, Mask: mask, Data: l})
			}
		}
	}
	for _, c := range []impl.Config{{Cores: 1, Sets: 1, Ways: 1, Lines: 1}, {Cores: 2, Sets: 1, Ways: 1, Lines: 2}, {Cores: 4, Sets: 4, Ways: 4, Lines: 16}} {
		f := newBy(c, slices.Repeat([][]impl.Op{{load(0)}}, int(c.Cores)), nil)
		for part := range slices.Chunk(list, 200) {
			f.Events = eventsCopy(part)
			checkFabricOk(t, f, true)
			stopIfFailed(t)
		}
		f.Events = eventsCopy(list[len(list)-199:])
		checkFabric(t, f)
	}
}

func TestFabricOfNothing(t *testing.T) {
	checkNoFabric(t, "the zero Fabric", impl.Fabric{})
	checkNoFabric(t, "lists of nothing", impl.Fabric{Cores: []impl.Core{}, Net: []impl.Msg{}, Events: []impl.Event{}})
	checkNoFabric(t, "only a layout", impl.Fabric{Config: threeCores})
	for _, n := range farNumbers {
		checkNoFabric(t, "far numbers", impl.Fabric{Config: impl.Config{Cores: n, Sets: n, Ways: n, Lines: n}, Dma: impl.Dma{At: n}, Net: []impl.Msg{{Road: n, From: n, To: n, Kind: n, Line: n, Flag: n}}, Events: []impl.Event{{Agent: n, Line: n, Mask: n, Told: n}}})
	}
	if got := impl.Enabled(impl.Fabric{}); len(got) != 0 {
		t.Errorf("Enabled of the zero Fabric: %v", got)
	}
	for _, action := range farActions {
		if f, is := impl.Acted(impl.Fabric{}, action); is || !sameFabric(f, impl.Fabric{}) {
			t.Errorf("Acted of the zero Fabric, %d: %+v, %v", action, f, is)
		}
	}
}

// Lists that are nil and such as are empty are the same.
func TestFabricOfListsThatAreNil(t *testing.T) {
	f := newBy(threeCores, [][]impl.Op{nil, {}, {load(0)}}, nil)
	bare := fabricCopy(f)
	bare.Dma = impl.Dma{Program: []impl.Desc{}, Told: [][]int64{}}
	bare.Net, bare.Events = []impl.Msg{}, []impl.Event{}
	for i := range bare.Cores {
		bare.Cores[i].Told, bare.Cores[i].Held.Data = []int64{}, []int64{}
		bare.Cores[i].Program = append([]impl.Op{}, bare.Cores[i].Program...)
	}
	for _, one := range []impl.Fabric{f, bare} {
		if !impl.FabricOk(one) || !slices.Equal(impl.Enabled(one), []int64{2}) {
			t.Errorf("FabricOk(%+v) is %v, Enabled %v", one, impl.FabricOk(one), impl.Enabled(one))
		}
		if got, is := impl.Acted(one, 2); !(fabricAnswer{got, is}).same(acts(f, 2)) {
			t.Errorf("Acted(%+v, 2) = %+v, %v", one, got, is)
		}
		if got, is := impl.Acted(one, 1); is || !sameFabric(got, f) {
			t.Errorf("Acted(%+v, 1) = %+v, %v", one, got, is)
		}
	}
}

// actedOf does an action that is Enabled, looked at from all sides, and hands back what comes of it.
func actedOf(t *testing.T, f impl.Fabric, action int64) impl.Fabric {
	t.Helper()
	checkFabric(t, f)
	fresh, is := impl.Acted(f, action)
	if !is || t.Failed() {
		t.Fatalf("Acted(%+v, %d) is %v", f, action, is)
	}
	return fresh
}

// scriptRow is one action, and what is so behind it: who is Enabled, the letters, and the Event that came, if any.
type scriptRow struct {
	action  int64
	enabled []int64
	net     []impl.Msg
	event   []impl.Event
}

func checkScript(t *testing.T, f impl.Fabric, rows []scriptRow) impl.Fabric {
	t.Helper()
	for i, r := range rows {
		events := append(eventsCopy(f.Events), r.event...)
		f = actedOf(t, f, r.action)
		if !slices.Equal(impl.Enabled(f), r.enabled) || !sameNet(f.Net, r.net) || !sameEvents(f.Events, events) {
			t.Fatalf("row %d: Enabled %v, Net %+v, Events %+v; want %+v", i, impl.Enabled(f), f.Net, f.Events, r)
		}
	}
	return f
}

// A core alone: it asks, is granted (an Event), does at once what it can (an Event), lets a line go, and asks again.
func TestFabricOneCoreByHand(t *testing.T) {
	c := impl.Config{Cores: 1, Sets: 1, Ways: 1, Lines: 2}
	f, _ := impl.NewFabric(c, [][]impl.Op{{load(1), {Kind: impl.OpAdd, Addr: 1, A: 5}, load(2)}}, nil)
	add := impl.Op{Kind: impl.OpAdd, Addr: 1, A: 5}
	done := func(line int64) impl.Msg { return impl.Msg{Road: 2, From: 0, To: 4, Kind: impl.MsDone, Line: line} }
	f = checkScript(t, f, []scriptRow{
		{0, []int64{2}, []impl.Msg{{From: 0, To: 4, Kind: impl.MsRead, Line: 0}}, nil},
		{2, []int64{2}, []impl.Msg{grantTo(0, 0, impl.StE, 0, 0)}, nil},
		{2, []int64{0, 2}, []impl.Msg{done(0)}, []impl.Event{{Agent: 0, Op: load(1)}}},
		{0, []int64{0, 2}, []impl.Msg{done(0)}, []impl.Event{{Agent: 0, Op: add, Told: 0}}},
		{0, []int64{2}, []impl.Msg{done(0), {From: 0, To: 4, Kind: impl.MsPut, Line: 0, Data: []int64{0, 5}, Flag: 1}}, nil},
		{2, []int64{2}, []impl.Msg{{From: 0, To: 4, Kind: impl.MsPut, Line: 0, Data: []int64{0, 5}, Flag: 1}}, nil},
		{2, []int64{2}, []impl.Msg{ackTo(0, 0)}, nil},
		{2, []int64{0}, nil, nil},
		{0, []int64{2}, []impl.Msg{{From: 0, To: 4, Kind: impl.MsRead, Line: 1}}, nil},
		{2, []int64{2}, []impl.Msg{grantTo(0, 1, impl.StE, 0, 0)}, nil},
		{2, []int64{2}, []impl.Msg{done(1)}, []impl.Event{{Agent: 0, Op: load(2)}}},
		{2, nil, nil, nil},
	})
	if !sameLines(f.House.Memory, [][]int64{{0, 5}, {0, 0}}) || !slices.Equal(f.Cores[0].Told, []int64{0, 0, 0}) {
		t.Errorf("in the end it is %+v", f)
	}
}

// Two cores and the DMA about one line: who has it is asked, the end of KdSnap and of KdPut is an Event when the last answer comes, and what the DMA hears then is none.
func TestFabricSnapAndPutByHand(t *testing.T) {
	c := impl.Config{Cores: 2, Sets: 1, Ways: 1, Lines: 1}
	f, _ := impl.NewFabric(c, [][]impl.Op{{store(1)}, {load(1)}}, []impl.Desc{readOf(0), writeOf(0, 1, 41, 42), readOf(0)})
	done := func(core int64) impl.Msg {
		return impl.Msg{Road: 2, From: core, To: 4, Kind: impl.MsDone, Line: 0}
	}
	told := func(core int64, kind int64, flag int64, words ...int64) impl.Msg {
		return impl.Msg{Road: 2, From: core, To: 4, Kind: kind, Line: 0, Flag: flag, Data: words}
	}
	snap := impl.Msg{From: 5, To: 4, Kind: impl.MsSnap}
	set := impl.Msg{From: 5, To: 4, Kind: impl.MsSet, Data: []int64{41, 42}, Flag: 1}
	read := impl.Msg{From: 1, To: 4, Kind: impl.MsRead}
	f = checkScript(t, f, []scriptRow{
		{0, []int64{1, 2, 3}, []impl.Msg{{From: 0, To: 4, Kind: impl.MsWrite}}, nil},
		{2, []int64{1, 3, 4}, []impl.Msg{{From: 0, To: 4, Kind: impl.MsWrite}, snap}, nil},
		{3, []int64{1, 4}, []impl.Msg{snap, grantTo(0, 0, impl.StM, 0, 0)}, nil},
		{4, []int64{1, 4}, []impl.Msg{snap, done(0)}, []impl.Event{{Agent: 0, Op: store(1)}}},
		{4, []int64{1, 3}, []impl.Msg{snap}, nil},
		{3, []int64{1, 3}, []impl.Msg{fetchTo(0, 0)}, nil},
		{3, []int64{1, 3}, []impl.Msg{told(0, impl.MsData, 0, 0, 9)}, nil},
		{3, []int64{1, 3}, []impl.Msg{toldTo(0, 0, 9)}, []impl.Event{{Agent: 5, Data: []int64{0, 9}}}},
		{3, []int64{1, 2}, nil, nil},
		{1, []int64{2, 3}, []impl.Msg{read}, nil},
		{3, []int64{2, 3}, []impl.Msg{grantTo(1, 0, impl.StS, 0, 9)}, nil},
		{3, []int64{2, 3}, []impl.Msg{done(1)}, []impl.Event{{Agent: 1, Op: load(1), Told: 9}}},
		{3, []int64{2}, nil, nil},
		{2, []int64{3}, []impl.Msg{set}, nil},
		{3, []int64{3, 4}, []impl.Msg{invalidTo(0, 0), invalidTo(1, 0)}, nil},
		{4, []int64{3, 4}, []impl.Msg{invalidTo(0, 0), told(1, impl.MsAck, 1)}, nil},
		{4, []int64{3}, []impl.Msg{invalidTo(0, 0)}, nil},
		{3, []int64{3}, []impl.Msg{told(0, impl.MsAck, 1)}, nil},
		{3, []int64{3}, []impl.Msg{toldTo(0)}, []impl.Event{{Agent: 5, Mask: 1, Data: []int64{41, 42}}}},
		{3, []int64{2}, nil, nil},
		{2, []int64{3}, []impl.Msg{snap}, nil},
		{3, []int64{3}, []impl.Msg{toldTo(0, 41, 9)}, []impl.Event{{Agent: 5, Data: []int64{41, 9}}}},
		{3, nil, nil, nil},
	})
	if !sameLines(f.Dma.Told, [][]int64{{0, 9}, {}, {41, 9}}) || !sameLines(f.House.Memory, [][]int64{{41, 9}}) {
		t.Errorf("in the end it is %+v", f)
	}
}

// What the DMA asks for and nobody has is at its end at once, and so is its Event, of each Mask.
func TestFabricSnapAndPutAtOnce(t *testing.T) {
	for line := range int64(5) {
		for mask := int64(1); mask <= 3; mask++ {
			f := newBy(threeCores, make([][]impl.Op, 3), []impl.Desc{writeOf(line, mask, 41, 42), readOf(line)})
			f.House.Memory = unlikeWords(5)
			words := byMask(f.House.Memory[line], []int64{41, 42}, mask)
			for _, want := range []impl.Event{{Agent: 5, Line: line, Mask: mask, Data: []int64{41, 42}}, {Agent: 5, Line: line, Data: words}} {
				count := len(f.Events)
				f = actedOf(t, f, 3)
				if len(f.Events) != count {
					t.Fatalf("an Event comes of Asking: %+v", f.Events)
				}
				f = actedOf(t, f, 4)
				if len(f.Events) != count+1 || !sameEvent(f.Events[count], want) {
					t.Fatalf("the Events are %+v, want %+v", f.Events, want)
				}
				f = actedOf(t, f, 4)
				if len(f.Events) != count+1 {
					t.Fatalf("an Event comes of Answered: %+v", f.Events)
				}
			}
		}
	}
}

// The Event of an op of each Kind, done at once and granted: the Op as it stands in the program, and what was told.
func TestFabricEventsOfEachOp(t *testing.T) {
	ops := []impl.Op{load(5), {Kind: impl.OpStore, Addr: 5, A: 3}, {Kind: impl.OpAdd, Addr: 5, A: 9999}, {Kind: impl.OpSwap, Addr: 5, A: 4}, {Kind: impl.OpCas, Addr: 5, A: 1047, B: 6}, {Kind: impl.OpCas, Addr: 5, A: 1, B: 6}}
	for id := range int64(3) {
		for _, o := range ops {
			_, said := saidBy(o, 1047)
			want := impl.Event{Agent: id, Op: o, Told: said}
			f := newBy(threeCores, make([][]impl.Op, 3), nil)
			f.House.Memory = unlikeWords(5)
			f.Cores[id].Program = []impl.Op{load(0), o}
			f.Cores[id].At, f.Cores[id].Told = 1, []int64{8}
			f.Events = someEvents(3)
			there := fabricCopy(f)
			there.Cores[id].Cache.Sets[0][1] = wayOf(2, impl.StM, 1, 1047)
			if got := actedOf(t, there, id); len(got.Events) != 4 || !sameEvent(got.Events[3], want) || !sameEvents(got.Events[:3], f.Events) {
				t.Errorf("done at once: %+v, want %+v", got.Events, want)
			}
			f = actedOf(t, f, id)
			f = actedOf(t, f, 4)
			if len(f.Events) != 3 {
				t.Errorf("an Event comes of a request: %+v", f.Events)
			}
			if f = actedOf(t, f, 4); len(f.Events) != 4 || !sameEvent(f.Events[3], want) {
				t.Errorf("granted: %+v, want %+v", f.Events, want)
			}
			if f = actedOf(t, f, 4); len(f.Events) != 4 {
				t.Errorf("an Event comes of MsDone: %+v", f.Events)
			}
		}
	}
}

// Each end of Begun: nothing to do, done at once, one must go (StS and StM), a request (read and write), and a core that does not go on.
func TestFabricBegunByHand(t *testing.T) {
	c := impl.Config{Cores: 2, Sets: 1, Ways: 1, Lines: 3}
	bare := emptyStore(1, 1)
	holding := func(state int64) impl.Cache { return withWay(bare, 0, 0, wayOf(1, state, 5, 6)) }
	rows := []struct {
		core impl.Core
		is   bool
		net  []impl.Msg
		done bool
	}{
		{idle(bare), false, nil, false},
		{behindLoads(0, idle(bare), 7), false, nil, false},
		{waiting(bare, load(2)), false, nil, false},
		{evicting(bare, wayOf(0, 1, 1, 2), load(2)), false, nil, false},
		{evicting(bare, wayOf(0, 0), load(2)), false, nil, false},
		{idle(holding(1), load(2)), true, nil, true},
		{idle(holding(2), store(3)), true, nil, true},
		{idle(holding(3), store(3)), true, nil, true},
		{idle(bare, load(2)), true, []impl.Msg{{From: 1, To: 4, Kind: 1, Line: 1}}, false},
		{idle(bare, store(2)), true, []impl.Msg{{From: 1, To: 4, Kind: 2, Line: 1}}, false},
		{idle(holding(1), store(2)), true, []impl.Msg{{From: 1, To: 4, Kind: 2, Line: 1}}, false},
		{idle(holding(1), load(4)), true, []impl.Msg{{From: 1, To: 4, Kind: 3, Line: 1}}, false},
		{idle(holding(2), load(4)), true, []impl.Msg{{From: 1, To: 4, Kind: 3, Line: 1, Data: []int64{5, 6}, Flag: 1}}, false},
		{idle(holding(3), load(4)), true, []impl.Msg{{From: 1, To: 4, Kind: 3, Line: 1, Data: []int64{5, 6}, Flag: 1}}, false},
	}
	for _, r := range rows {
		f := newBy(c, make([][]impl.Op, 2), nil)
		f.Cores[1] = r.core
		checkFabric(t, f)
		if !r.is {
			checkEnabled(t, f)
			checkActed(t, f, 1, stillFabric(f))
			continue
		}
		checkEnabled(t, f, 1)
		if got := actedOf(t, f, 1); !sameNet(got.Net, r.net) || r.done != (len(got.Events) == 1) || len(got.Events) > 1 {
			t.Errorf("of %+v came %+v", r.core, got)
		}
	}
}

func TestFabricAskingByHand(t *testing.T) {
	list := []impl.Desc{readOf(4), writeOf(3, 2, 71, 72)}
	rows := []struct {
		dma impl.Dma
		net []impl.Msg
	}{
		{impl.Dma{}, nil},
		{impl.Dma{Program: list}, []impl.Msg{snapTo(4)}},
		{impl.Dma{Program: list, Waits: true}, nil},
		{impl.Dma{Program: list, At: 1, Told: [][]int64{{1, 2}}}, []impl.Msg{setTo(3, 2, 71, 72)}},
		{impl.Dma{Program: list, At: 1, Waits: true, Told: [][]int64{{1, 2}}}, nil},
		{impl.Dma{Program: list, At: 2, Told: [][]int64{{1, 2}, {}}}, nil},
	}
	for _, r := range rows {
		f := newBy(threeCores, make([][]impl.Op, 3), nil)
		f.Dma = r.dma
		checkFabric(t, f)
		if r.net == nil {
			checkEnabled(t, f)
			continue
		}
		checkEnabled(t, f, 3)
		if got := actedOf(t, f, 3); !sameNet(got.Net, r.net) || !got.Dma.Waits || len(got.Events) != 0 {
			t.Errorf("of %+v came %+v", r.dma, got)
		}
	}
}

// letterRow is a letter in a fabric by itself, and whether it is taken.
type letterRow struct {
	m    impl.Msg
	is   bool
	sent int
}

func TestFabricLettersByHand(t *testing.T) {
	rows := []letterRow{
		// To core 0, which waits for line 4 to read it.
		{grantTo(0, 4, 1, 5, 6), true, 1}, {grantTo(0, 4, 3, 5, 6), true, 1}, {grantTo(0, 4, 0, 5, 6), false, 0}, {grantTo(0, 4, 4, 5, 6), false, 0}, {grantTo(0, 4, 1), false, 0}, {grantTo(0, 3, 1, 5, 6), false, 0},
		{fetchTo(0, 4), true, 1}, {invalidTo(0, 4), true, 1}, {fetchTo(0, 0), true, 1}, {ackTo(0, 4), false, 0},
		// To core 1, which evicts line 2.
		{ackTo(1, 2), true, 0}, {ackTo(1, 3), false, 0}, {grantTo(1, 2, 1, 5, 6), false, 0}, {invalidTo(1, 2), true, 1}, {fetchTo(1, 3), true, 1}, {impl.Msg{From: 4, To: 1, Kind: 1}, false, 0},
		// To core 2, which is idle.
		{grantTo(2, 1, 3, 5, 6), false, 0}, {ackTo(2, 1), false, 0}, {fetchTo(2, 1), true, 1}, {impl.Msg{From: 0, To: 2, Kind: 7, Line: 1}, true, 1}, {impl.Msg{From: 4, To: 2, Kind: 13, Line: 1, Data: []int64{5, 6}}, false, 0},
		// To the house: line 0 is free, line 1 is core 2's, lines 2 and 3 are Busy, line 4 is shared.
		{impl.Msg{From: 0, To: 4, Kind: 1, Line: 0}, true, 1}, {impl.Msg{From: 0, To: 4, Kind: 1, Line: 1}, true, 1}, {impl.Msg{From: 0, To: 4, Kind: 1, Line: 2}, false, 0}, {impl.Msg{From: 1, To: 4, Kind: 2, Line: 4}, true, 2},
		{impl.Msg{From: 0, To: 4, Kind: 3, Line: 0}, true, 1}, {impl.Msg{From: 1, To: 4, Kind: 3, Line: 2}, false, 0}, {impl.Msg{From: 4, To: 4, Kind: 1, Line: 0}, false, 0}, {impl.Msg{From: 5, To: 4, Kind: 1, Line: 0}, false, 0},
		{snapTo(0), true, 1}, {snapTo(1), true, 1}, {snapTo(3), false, 0}, {setTo(0, 1, 5, 6), true, 1}, {setTo(0, 4, 5, 6), false, 0}, {setTo(0, 1), false, 0}, {setTo(4, 0, 5, 6), true, 2},
		{impl.Msg{Road: 2, From: 0, To: 4, Kind: 9, Line: 2, Flag: 1}, true, 0}, {impl.Msg{Road: 2, From: 2, To: 4, Kind: 9, Line: 2, Flag: 1}, false, 0}, {impl.Msg{Road: 2, From: 1, To: 4, Kind: 8, Line: 3, Flag: 1, Data: []int64{5, 6}}, true, 1},
		{impl.Msg{Road: 2, From: 2, To: 4, Kind: 10, Line: 2}, false, 0}, {impl.Msg{Road: 2, From: 2, To: 4, Kind: 10, Line: 1}, false, 0}, {impl.Msg{From: 0, To: 4, Kind: 14}, false, 0}, {grantTo(0, 4, 1, 5, 6), true, 1},
		// To the DMA, which waits for a write of line 3.
		{toldTo(3), true, 0}, {toldTo(3, 5, 6), true, 0}, {toldTo(4, 5, 6), false, 0}, {toldTo(2), false, 0}, {impl.Msg{From: 0, To: 5, Kind: 13, Line: 3}, true, 0}, {impl.Msg{From: 4, To: 5, Kind: 12, Line: 3}, false, 0}, {impl.Msg{From: 5, To: 5, Kind: 6, Line: 3}, false, 0},
	}
	for _, r := range rows {
		f := mixedFabric()
		f.Net = []impl.Msg{r.m}
		checkFabric(t, f)
		if is := slices.Contains(impl.Enabled(f), 4); is != r.is {
			t.Errorf("%+v is Enabled: %v", r.m, is)
		}
		if !r.is {
			checkActed(t, f, 4, stillFabric(f))
			continue
		}
		if got := actedOf(t, f, 4); len(got.Net) != r.sent {
			t.Errorf("of %+v came %+v", r.m, got.Net)
		}
	}
}

// Of one Road, From and To only the first letter is Enabled, though the ones behind it would be taken; and where the first is not taken, none of them is.
func TestFabricFirstLetters(t *testing.T) {
	told := impl.Msg{From: 4, To: 0, Kind: 13, Line: 1, Road: 1}
	rows := []struct {
		net     []impl.Msg
		enabled []int64
	}{
		{[]impl.Msg{fetchTo(0, 0), fetchTo(0, 1)}, []int64{4}},
		{[]impl.Msg{fetchTo(0, 0), fetchTo(1, 1)}, []int64{4, 5}},
		{[]impl.Msg{fetchTo(0, 0), fetchTo(0, 1), fetchTo(1, 1), fetchTo(1, 0), fetchTo(2, 0)}, []int64{4, 6, 8}},
		{[]impl.Msg{told, fetchTo(0, 0)}, nil},
		{[]impl.Msg{told, fetchTo(0, 0), fetchTo(1, 0)}, []int64{6}},
		{[]impl.Msg{fetchTo(0, 0), told}, []int64{4}},
		{[]impl.Msg{told, {Road: 2, From: 4, To: 0, Kind: 6}, {Road: 1, From: 5, To: 0, Kind: 6}}, []int64{5, 6}},
		{[]impl.Msg{snapTo(0), snapTo(1), {Road: 0, From: 0, To: 4, Kind: 1, Line: 2}}, []int64{4, 6}},
		{slices.Repeat([]impl.Msg{fetchTo(2, 4)}, 60), []int64{4}},
		{idleLetters(60), nil},
		{nil, nil},
	}
	for _, r := range rows {
		f := newBy(threeCores, make([][]impl.Op, 3), nil)
		f.Net = r.net
		checkFabric(t, f)
		checkEnabled(t, f, r.enabled...)
	}
}

// A house that is Busy with a line hears no request and no MsPut of it; of another line it does.
func TestFabricOfABusyHouse(t *testing.T) {
	for _, e := range []impl.Entry{busy(nobody(), 1, 0, 0), busy(owner(1), 2, 0, 1), busy(owner(1), 3, 5, 1), putting(sharers(0, 1), 2, 3, 5, 6)} {
		for _, m := range []impl.Msg{{From: 2, To: 4, Kind: 1, Line: 3}, {From: 2, To: 4, Kind: 2, Line: 3}, {From: 2, To: 4, Kind: 3, Line: 3}, snapTo(3), setTo(3, 1, 7, 8)} {
			f := newBy(threeCores, make([][]impl.Op, 3), nil)
			f.House.Book[3], f.Net = e, []impl.Msg{m}
			checkFabric(t, f)
			checkEnabled(t, f)
			checkActed(t, f, 4, stillFabric(f))
			f.Net[0].Line = 2
			checkFabric(t, f)
			checkEnabled(t, f, 4)
			f.Net[0].Line, f.House.Book[3] = 3, impl.Entry{Owner: e.Owner, Sharers: e.Sharers}
			checkFabric(t, f)
			checkEnabled(t, f, 4)
		}
	}
}

// roomRow is a fabric with so many letters that nobody listens to, what is looked at there, and how many letters and Events come of it.
type roomRow struct {
	name   string
	turn   func(f *impl.Fabric)
	action int64
	taken  int
	sent   int
	events int
}

func roomRows() []roomRow {
	letter := func(m impl.Msg) func(f *impl.Fabric) {
		return func(f *impl.Fabric) { f.Net = append([]impl.Msg{m}, f.Net...) }
	}
	both := func(list ...func(f *impl.Fabric)) func(f *impl.Fabric) {
		return func(f *impl.Fabric) {
			for _, turn := range list {
				turn(f)
			}
		}
	}
	core := func(c impl.Core) func(f *impl.Fabric) { return func(f *impl.Fabric) { f.Cores[0] = c } }
	entry := func(e impl.Entry) func(f *impl.Fabric) { return func(f *impl.Fabric) { f.House.Book[1] = e } }
	shelf := emptyStore(2, 2)
	here := withWay(shelf, 1, 0, wayOf(1, 3, 5, 6))
	ask := func(f *impl.Fabric) { f.Dma = impl.Dma{Program: []impl.Desc{readOf(1)}} }
	waits := func(f *impl.Fabric) { f.Dma = impl.Dma{Program: []impl.Desc{readOf(1)}, Waits: true} }
	last := func(kind int64) impl.Msg {
		return impl.Msg{Road: 2, From: 0, To: 4, Kind: kind, Line: 1, Flag: 1}
	}
	return []roomRow{
		{"done at once", core(idle(here, load(2))), 0, 0, 0, 1},
		{"a request", core(idle(shelf, load(2))), 0, 0, 1, 0},
		{"one goes", core(idle(withWay(withWay(here, 0, 0, wayOf(0, 2, 5, 6)), 0, 1, wayOf(2, 1, 7, 8)), load(8))), 0, 0, 1, 0},
		{"Asking", ask, 3, 0, 1, 0},
		{"granted", both(core(waiting(shelf, load(2))), letter(grantTo(0, 1, 1, 5, 6))), 4, 1, 1, 1},
		{"fetched", letter(fetchTo(0, 1)), 4, 1, 1, 0},
		{"let go", both(core(evicting(shelf, wayOf(1, 0))), letter(ackTo(0, 1))), 4, 1, 0, 0},
		{"answered", both(waits, letter(toldTo(1, 5, 6))), 4, 1, 0, 0},
		{"a read of nobody's", letter(impl.Msg{From: 1, To: 4, Kind: 1, Line: 1}), 4, 1, 1, 0},
		{"a write of one's", both(entry(owner(0)), letter(impl.Msg{From: 1, To: 4, Kind: 2, Line: 1})), 4, 1, 1, 0},
		{"a write of two's", both(entry(sharers(0, 2)), letter(impl.Msg{From: 1, To: 4, Kind: 2, Line: 1})), 4, 1, 2, 0},
		{"a put of three's", both(entry(sharers(0, 1, 2)), letter(setTo(1, 1, 5, 6))), 4, 1, 3, 0},
		{"a put of nobody's", letter(setTo(1, 1, 5, 6)), 4, 1, 1, 1},
		{"a snap of nobody's", letter(snapTo(1)), 4, 1, 1, 1},
		{"a snap of one's", both(entry(owner(0)), letter(snapTo(1))), 4, 1, 1, 0},
		{"the last answer to a snap", both(entry(busy(owner(0), 3, 5, 1)), letter(last(9))), 4, 1, 1, 1},
		{"the last answer to a put", both(entry(putting(sharers(0), 1, 2, 5, 6)), letter(last(9))), 4, 1, 1, 1},
		{"the last answer to a read", both(entry(busy(owner(0), 1, 1, 1)), letter(last(9))), 4, 1, 1, 0},
		{"one answer of two", both(entry(busy(sharers(0, 2), 2, 1, 2)), letter(last(9))), 4, 1, 0, 0},
		{"Done", both(entry(busy(owner(0), 2, 0, 0)), letter(last(10))), 4, 1, 0, 0},
		{"put back", letter(impl.Msg{From: 0, To: 4, Kind: 3, Line: 1}), 4, 1, 1, 0},
	}
}

// Just as many letters and Events as there may be come in; one more does not, and then nothing is done at all.
func TestFabricRoom(t *testing.T) {
	refused := 0
	for _, r := range roomRows() {
		for letters := 55; letters <= 60; letters++ {
			for events := 198; events <= 200; events++ {
				if letters < r.taken {
					continue
				}
				f := newBy(threeCores, make([][]impl.Op, 3), nil)
				f.Net, f.Events = idleLetters(letters-r.taken), someEvents(events)
				r.turn(&f)
				is := letters-r.taken+r.sent <= 60 && events+r.events <= 200
				checkFabricOk(t, f, true)
				var want []int64
				if is {
					want = []int64{r.action}
				}
				checkEnabled(t, f, want...)
				answer := acts(f, r.action)
				if answer.is != is {
					t.Fatalf("%s: %d letters, %d Events: %v", r.name, letters, events, answer.is)
				}
				checkActed(t, f, r.action, answer)
				if !is {
					refused++
					checkActed(t, f, r.action, stillFabric(f))
				} else if len(answer.fabric.Net) != letters-r.taken+r.sent || len(answer.fabric.Events) != events+r.events {
					t.Errorf("%s: %d letters and %d Events then", r.name, len(answer.fabric.Net), len(answer.fabric.Events))
				}
				stopIfFailed(t)
			}
		}
	}
	if refused < 50 {
		t.Errorf("only %d were refused", refused)
	}
}

// A line that goes where there is no room for the letter: it stays, and the core is as it was.
func TestFabricRoomForOneThatGoes(t *testing.T) {
	c := impl.Config{Cores: 1, Sets: 1, Ways: 1, Lines: 2}
	for state := int64(1); state <= 3; state++ {
		f := newBy(c, [][]impl.Op{{load(2)}}, nil)
		f.Cores[0].Cache.Sets[0][0] = wayOf(0, state, 5, 6)
		f.Net = idleLetters(60)
		checkFabric(t, f)
		checkEnabled(t, f)
		f.Net = idleLetters(59)
		checkFabric(t, f)
		checkEnabled(t, f, 0)
	}
}

func TestFabricActedOfFarNumbers(t *testing.T) {
	bare := newBy(threeCores, make([][]impl.Op, 3), nil)
	full := mixedFabric()
	full.Net = slices.Repeat([]impl.Msg{fetchTo(0, 1), fetchTo(1, 1), fetchTo(2, 1)}, 20)
	full.Cores = []impl.Core{full.Cores[2], full.Cores[2], full.Cores[2]}
	full.Dma = impl.Dma{Program: []impl.Desc{readOf(1)}}
	for _, f := range []impl.Fabric{bare, mixedFabric(), full} {
		for _, action := range slices.Concat(farActions, []int64{lastAction(f) + 1, lastAction(f) + 2, lastAction(f) + 3, 2 * lastAction(f), -lastAction(f)}) {
			if action < 0 || action > lastAction(f) {
				checkActed(t, f, action, stillFabric(f))
			}
		}
		checkEnabled(t, f, enabledBy(f)...)
	}
}

// dice gives numbers from 0 on, one after the other, always the same ones.
type dice struct{ n uint64 }

func (d *dice) roll(count int64) int64 {
	d.n = d.n*6364136223846793005 + 1442695040888963407
	return int64(d.n>>33) % count
}

func (d *dice) words() []int64 { return []int64{d.roll(10000), d.roll(10000)} }

func (d *dice) layout(most int64) impl.Config {
	return impl.Config{Cores: 1 + d.roll(4), Sets: rightSizes[d.roll(3)], Ways: rightSizes[d.roll(3)], Lines: 1 + d.roll(most)}
}

func (d *dice) program(lines int64, most int64) []impl.Op {
	list := opsIn(lines, int(d.roll(most+1)))
	for i := range list {
		r := opRows[d.roll(int64(len(opRows)))]
		list[i] = impl.Op{Kind: r.kind, Addr: d.roll(2 * lines)}
		if r.hasA {
			list[i].A = d.roll(4)
		}
		if r.hasB {
			list[i].B = d.roll(4)
		}
	}
	return list
}

func (d *dice) descs(lines int64, most int64) []impl.Desc {
	var list []impl.Desc
	for range d.roll(most + 1) {
		if d.roll(2) == 0 {
			list = append(list, readOf(d.roll(lines)))
		} else {
			list = append(list, writeOf(d.roll(lines), 1+d.roll(3), d.words()...))
		}
	}
	return list
}

func (d *dice) newFabric(t *testing.T, lines int64, length int64) impl.Fabric {
	t.Helper()
	c := d.layout(lines)
	var programs [][]impl.Op
	for range c.Cores {
		programs = append(programs, d.program(c.Lines, length))
	}
	list := d.descs(c.Lines, length)
	f, code := impl.NewFabric(c, programs, list)
	if code != impl.PgOk || !sameFabric(f, newBy(c, programs, list)) {
		t.Fatalf("NewFabric(%+v, %+v, %+v) = %+v, %d", c, programs, list, f, code)
	}
	return f
}

// Promise 15: long walks by mixed picks, from new fabrics to their ends; behind each step the fabric is right, just what is Enabled is done, and all is as the text over again has it.
func TestFabricLongWalks(t *testing.T) {
	d := &dice{1}
	seen := map[int64]int{}
	for range 120 {
		f := d.newFabric(t, 5, 6)
		for steps := 0; ; steps++ {
			if steps > 2000 {
				t.Fatalf("no end is to be seen: %+v", f)
			}
			enabled := checkFabric(t, f)
			stopIfFailed(t)
			if len(enabled) == 0 {
				break
			}
			action := enabled[d.roll(int64(len(enabled)))]
			if action > f.Config.Cores {
				seen[f.Net[action-f.Config.Cores-1].Kind]++
			}
			f, _ = impl.Acted(f, action)
		}
		checkAtItsEnd(t, f)
	}
	for kind := int64(1); kind <= 13; kind++ {
		if seen[kind] < 5 {
			t.Errorf("of letters of Kind %d only %d were taken", kind, seen[kind])
		}
	}
}

// checkAtItsEnd tells of a fabric that was new once and of which nothing is Enabled: nobody waits there, and there is an Event of each Op and each Desc, in each agent's order.
func checkAtItsEnd(t *testing.T, f impl.Fabric) {
	t.Helper()
	events := map[int64][]impl.Event{}
	for _, e := range f.Events {
		events[e.Agent] = append(events[e.Agent], e)
	}
	for id, c := range f.Cores {
		var want []impl.Event
		for i, said := range c.Told {
			want = append(want, impl.Event{Agent: int64(id), Op: c.Program[i], Told: said})
		}
		if len(c.Told) != len(c.Program) || !sameEvents(events[int64(id)], want) {
			t.Errorf("the Events of core %d are %+v, and it is %+v", id, events[int64(id)], c)
		}
	}
	var want []impl.Event
	for i, words := range f.Dma.Told {
		one := f.Dma.Program[i]
		if one.Write {
			words = one.Data
		}
		want = append(want, impl.Event{Agent: 5, Line: one.Line, Mask: one.Mask, Data: words})
	}
	if len(f.Dma.Told) != len(f.Dma.Program) || !sameEvents(events[5], want) || len(f.Net) != 0 {
		t.Errorf("the Events of the DMA are %+v, and it is %+v", events[5], f.Dma)
	}
}

// Walks of the greatest programs, with all that a fabric can have; only what is picked is looked at.
func TestFabricLongestWalks(t *testing.T) {
	d := &dice{2}
	for _, c := range []impl.Config{{Cores: 4, Sets: 1, Ways: 1, Lines: 2}, {Cores: 4, Sets: 1, Ways: 2, Lines: 16}, {Cores: 3, Sets: 4, Ways: 4, Lines: 16}, {Cores: 1, Sets: 1, Ways: 1, Lines: 1}} {
		var programs [][]impl.Op
		for range c.Cores {
			programs = append(programs, opsIn(c.Lines, 30))
		}
		f, code := impl.NewFabric(c, programs, descsIn(c.Lines, 30))
		for steps := 0; ; steps++ {
			enabled := impl.Enabled(f)
			if !impl.FabricOk(f) || code != impl.PgOk || steps > 5000 {
				t.Fatalf("behind %d steps: %+v", steps, f)
			}
			if len(enabled) == 0 {
				break
			}
			action := enabled[d.roll(int64(len(enabled)))]
			want := acts(f, action)
			got, is := impl.Acted(f, action)
			if !is || !sameFabric(got, want.fabric) {
				t.Fatalf("Acted(%+v, %d) = %+v, %v", f, action, got, is)
			}
			f = got
		}
		checkAtItsEnd(t, f)
	}
}

// anyEntry is some right Entry, told by dice, of these Cores.
func (d *dice) anyEntry(cores int64) impl.Entry {
	e := nobody()
	if d.roll(2) == 0 {
		e.Owner = d.roll(cores)
	} else {
		e.Sharers = d.roll(1 << cores)
	}
	switch d.roll(8) {
	case 0:
		return busy(e, 1, d.roll(cores), d.roll(4))
	case 1:
		return busy(e, 2, d.roll(cores), d.roll(5))
	case 2:
		return busy(e, 3, 5, 1+d.roll(2))
	case 3:
		return putting(e, 1+d.roll(3), d.roll(4), d.words()...)
	}
	return e
}

func (d *dice) anyCore(c impl.Config) impl.Core {
	core := idle(emptyStore(c.Sets, c.Ways), d.program(c.Lines, 5)...)
	core.At = d.roll(int64(len(core.Program)) + 1)
	for range core.At {
		core.Told = append(core.Told, d.roll(10000))
	}
	held := d.roll(c.Lines)
	for range d.roll(8) {
		line := d.roll(c.Lines)
		shelf := modelOf(core.Cache)
		if line != held && shelf.fill(wayOf(line, 1+d.roll(3), d.words()...)) {
			core.Cache = shelf.store()
		}
	}
	switch d.roll(3) {
	case 0:
		core.Phase, core.Held = impl.PhEvict, wayOf(held, d.roll(4), d.words()...)
		if core.Held.State == impl.StI {
			core.Held.Data = nil
		}
	case 1:
		if core.At < int64(len(core.Program)) {
			core.Phase = impl.PhWait
		}
	}
	return core
}

// anyLetter is some right letter, told by dice; often one that is listened to.
func (d *dice) anyLetter(f impl.Fabric) impl.Msg {
	agents := []int64{4, 5}
	for id := range f.Config.Cores {
		agents = append(agents, id)
	}
	agent := func() int64 { return agents[d.roll(int64(len(agents)))] }
	m := impl.Msg{Road: d.roll(3), From: agent(), To: agent(), Kind: 1 + d.roll(15), Line: d.roll(f.Config.Lines), Flag: d.roll(16) % (1 + d.roll(16))}
	if d.roll(2) == 0 {
		m.Data = d.words()
	}
	switch d.roll(4) {
	case 0:
		m.To, m.Kind = 4, []int64{1, 2, 3, 4, 5, 8, 9, 10}[d.roll(8)]
	case 1:
		m.To, m.Kind = d.roll(f.Config.Cores), []int64{6, 7, 11, 12}[d.roll(4)]
	case 2:
		m.To, m.Kind = 5, 13
	}
	return m
}

// anyFabric is some right fabric, told by dice: its parts do not fit each other at all.
func (d *dice) anyFabric() impl.Fabric {
	f := impl.Fabric{Config: d.layout(16), Events: someEvents([]int{0, 3, 199, 200}[d.roll(4)])}
	for range f.Config.Lines {
		f.House.Memory = append(f.House.Memory, d.words())
		f.House.Book = append(f.House.Book, d.anyEntry(f.Config.Cores))
	}
	for range f.Config.Cores {
		f.Cores = append(f.Cores, d.anyCore(f.Config))
	}
	list := d.descs(f.Config.Lines, 6)
	f.Dma = dmaAt(list, int(d.roll(int64(len(list))+1)), false)
	f.Dma.Waits = f.Dma.At < int64(len(list)) && d.roll(2) == 0
	for range []int64{0, 5, 12, 58, 59, 60}[d.roll(6)] {
		f.Net = append(f.Net, d.anyLetter(f))
	}
	return f
}

// Promise 15: of any right fabric, also of such as no new one comes to, each action leaves a right one, and what is not Enabled leaves it as it is.
func TestFabricOfAnyRightFabric(t *testing.T) {
	d := &dice{3}
	seen := map[bool]int{}
	for range 400 {
		f := d.anyFabric()
		enabled := len(checkFabric(t, f))
		seen[true] += enabled
		seen[false] += int(lastAction(f)) + 1 - enabled
		stopIfFailed(t)
	}
	if seen[true] < 1000 || seen[false] < 1000 {
		t.Errorf("looked at %v", seen)
	}
}

// Walks from such fabrics on, with letters thrown in from outside.
func TestFabricWalksOfAnyRightFabric(t *testing.T) {
	d := &dice{4}
	for range 60 {
		f := d.anyFabric()
		f.Events = nil
		for range 60 {
			if len(f.Net) < 60 && d.roll(3) == 0 {
				f.Net = append(f.Net, d.anyLetter(f))
			}
			enabled := impl.Enabled(f)
			action := d.roll(lastAction(f) + 1)
			if len(enabled) > 0 && d.roll(4) > 0 {
				action = enabled[d.roll(int64(len(enabled)))]
			}
			checkActed(t, f, action, acts(f, action))
			stopIfFailed(t)
			var is bool
			if f, is = impl.Acted(f, action); is != slices.Contains(enabled, action) || !impl.FabricOk(f) || !fabricRight(f) {
				t.Fatalf("action %d of %v was done: %v, and it is %+v", action, enabled, is, f)
			}
		}
	}
}

// memoryRoom is where a list stands, with its spare room.
type memoryRoom struct{ from, end uintptr }

// roomsOf are those of all lists in a value, whatever it is made of.
func roomsOf(v reflect.Value) []memoryRoom {
	var list []memoryRoom
	switch v.Kind() {
	case reflect.Struct:
		for i := range v.NumField() {
			list = append(list, roomsOf(v.Field(i))...)
		}
	case reflect.Slice:
		if v.Cap() > 0 {
			list = append(list, memoryRoom{v.Pointer(), v.Pointer() + uintptr(v.Cap())*v.Type().Elem().Size()})
		}
		for i := range v.Len() {
			list = append(list, roomsOf(v.Index(i))...)
		}
	}
	return list
}

// checkRoomsApart tells whether any two lists of the answer share memory, or one of it with one of what was given.
func checkRoomsApart(t *testing.T, name string, answer any, given ...any) {
	t.Helper()
	var others []memoryRoom
	for _, one := range given {
		others = append(others, roomsOf(reflect.ValueOf(one))...)
	}
	rooms := roomsOf(reflect.ValueOf(answer))
	for i, a := range rooms {
		for _, b := range slices.Concat(rooms[:i], others) {
			if a.from < b.end && b.from < a.end {
				t.Fatalf("%s: two lists share memory", name)
			}
		}
	}
}

// spoilFabric writes into all that can be reached of a fabric, also into the spare room behind each list.
func spoilFabric(f impl.Fabric) {
	spoilHouse(f.House)
	for _, c := range f.Cores {
		spoilCore(c)
	}
	cores := f.Cores[:cap(f.Cores)]
	for i := range cores {
		cores[i] = impl.Core{At: 99}
	}
	spoilDma(f.Dma)
	spoilNet(f.Net)
	events := f.Events[:cap(f.Events)]
	for i := range events {
		spoil(events[i].Data)
		events[i] = impl.Event{Agent: 99, Line: 99, Data: []int64{99}}
	}
}

// checkOwnFabric does an action, spoils what was answered, and looks at what was given; then does it again, spoils what was given, and looks at what was answered.
func checkOwnFabric(t *testing.T, f impl.Fabric, action int64) {
	t.Helper()
	given := roomyFabric(f)
	was := pictureOfFabric(given)
	got, is := impl.Acted(given, action)
	want := fabricAnswer{fabricCopy(got), is}
	checkRoomsApart(t, "Acted", got, given)
	spoilFabric(got)
	if pictureOfFabric(given) != was {
		t.Errorf("Acted(%+v, %d) answers with memory of its argument", f, action)
	}
	got, is = impl.Acted(given, action)
	spoilFabric(given)
	if !want.same(fabricAnswer{got, is}) {
		t.Errorf("Acted(%+v, %d): what was answered changes with what was given", f, action)
	}
}

func TestFabricAnswersAreNewMemory(t *testing.T) {
	d := &dice{5}
	list := []impl.Fabric{mixedFabric(), newBy(threeCores, make([][]impl.Op, 3), descsIn(5, 3)), {}, {Config: threeCores, Net: idleLetters(3), Events: someEvents(5)}}
	for range 40 {
		list = append(list, d.anyFabric())
	}
	for _, r := range roomRows() {
		f := newBy(threeCores, make([][]impl.Op, 3), nil)
		f.Events = someEvents(4)
		r.turn(&f)
		list = append(list, f)
	}
	for _, f := range list {
		for action := int64(-1); action <= lastAction(f)+1; action++ {
			checkOwnFabric(t, f, action)
		}
		given := roomyFabric(f)
		checkRoomsApart(t, "Enabled", [][]int64{impl.Enabled(given), impl.Enabled(given)}, given)
		stopIfFailed(t)
	}
}

func TestFabricNewIsNewMemory(t *testing.T) {
	program := roomyOps(opsIn(5, 4))
	list := roomyDescs(descsIn(5, 7))
	programs := [][]impl.Op{program, program, program}
	got, code := impl.NewFabric(threeCores, programs, list)
	want := fabricCopy(got)
	if code != impl.PgOk {
		t.Fatalf("it is refused by %d", code)
	}
	checkRoomsApart(t, "NewFabric", got, programs, list)
	again, _ := impl.NewFabric(threeCores, programs, list)
	checkRoomsApart(t, "NewFabric", []impl.Fabric{got, again}, programs, list)
	spoilFabric(again)
	spoilCore(impl.Core{Program: program})
	spoilDma(impl.Dma{Program: list})
	if !sameFabric(got, want) {
		t.Errorf("what was answered changes with what was given")
	}
}

// What is given may share memory, all with all: what is answered does not.
func TestFabricOfArgumentsThatShare(t *testing.T) {
	one := []int64{31, 32}
	shelf := withWay(emptyStore(2, 2), 1, 0, wayOf(1, 3))
	shelf.Sets[1][0].Data = one
	core := behindLoads(8, idle(shelf, store(2), load(0)), 31, 32)
	core.Told = one
	list := []impl.Desc{readOf(1), {Write: true, Line: 1, Mask: 3, Data: one}, readOf(0)}
	f := impl.Fabric{
		Config: threeCores,
		House:  impl.House{Memory: [][]int64{one, one, one, one, one}, Book: []impl.Entry{nobody(), owner(0), putting(owner(1), 1, 2), putting(owner(2), 1, 3), nobody()}},
		Cores:  []impl.Core{core, core, core},
		Dma:    impl.Dma{Program: list, At: 1, Told: [][]int64{one}},
		Net: []impl.Msg{
			{Road: 2, From: 1, To: 4, Kind: impl.MsData, Line: 2, Data: one}, {Road: 2, From: 2, To: 4, Kind: impl.MsData, Line: 3, Data: one, Flag: 1},
			{From: 0, To: 4, Kind: impl.MsPut, Line: 1, Data: one, Flag: 1}, {From: 5, To: 4, Kind: impl.MsSet, Line: 4, Data: one, Flag: 1}, invalidTo(0, 1), fetchTo(1, 1),
		},
		Events: []impl.Event{{Agent: 5, Line: 1, Data: one}, {Agent: 5, Line: 1, Data: one}},
	}
	f.House.Book[2].Data, f.House.Book[3].Data = one, one
	apart := fabricCopy(f)
	checkFabric(t, apart)
	checkEnabled(t, apart, 0, 1, 2, 3, 4, 5, 6, 7, 8, 9)
	for action := int64(-1); action <= lastAction(f)+1; action++ {
		got, is := impl.Acted(f, action)
		if want := acts(apart, action); !want.same(fabricAnswer{got, is}) {
			t.Errorf("Acted(%+v, %d) = %+v, %v, want %+v", f, action, got, is, want)
		}
		checkRoomsApart(t, "Acted", got, f)
		if !slices.Equal(one, []int64{31, 32}) {
			t.Fatalf("action %d wrote into its argument", action)
		}
	}
}

// One fabric may be asked many times: it stays as it was, and each time it answers the same.
func TestFabricStaysWhatItWas(t *testing.T) {
	f := roomyFabric(mixedFabric())
	was := pictureOfFabric(f)
	for range 3 {
		for action := int64(-1); action <= lastAction(f)+1; action++ {
			first, is := impl.Acted(f, action)
			second, again := impl.Acted(f, action)
			if is != again || !sameFabric(first, second) || pictureOfFabric(f) != was || !slices.Equal(impl.Enabled(f), []int64{2, 4, 6, 7, 9}) {
				t.Fatalf("action %d is not the same twice", action)
			}
		}
	}
}
