package tests

import (
	"math"
	"testing"

	"loop.example/g00342/impl"
)

var rightSizes = []int64{1, 2, 4}

var wrongCores = []int64{math.MinInt64, math.MinInt64 + 1, -4, -1, 0, 5, 6, 8, math.MaxInt64 - 1, math.MaxInt64}

var wrongSizes = []int64{math.MinInt64, math.MinInt64 + 1, -4, -2, -1, 0, 3, 5, 6, 7, 8, 16, math.MaxInt64 - 1, math.MaxInt64}

var wrongLines = []int64{math.MinInt64, math.MinInt64 + 1, -16, -1, 0, 17, 18, 32, math.MaxInt64 - 1, math.MaxInt64}

// farNumbers are no address, no line and no word of any layout; doubled, or halved, some of them wrap round to small ones.
var farNumbers = []int64{math.MinInt64, math.MinInt64 + 1, math.MinInt64 / 2, -1 << 32, -33, 33, 1 << 32, math.MaxInt64/2 - 1, math.MaxInt64 / 2, math.MaxInt64/2 + 1, math.MaxInt64 - 1, math.MaxInt64}

// everyLayout gives all that are right.
func everyLayout(yield func(impl.Config) bool) {
	for cores := int64(1); cores <= 4; cores++ {
		for _, sets := range rightSizes {
			for _, ways := range rightSizes {
				for lines := int64(1); lines <= 16; lines++ {
					if !yield(impl.Config{Cores: cores, Sets: sets, Ways: ways, Lines: lines}) {
						return
					}
				}
			}
		}
	}
}

// place is where a word is: its line, and its number there.
type place struct{ line, word int64 }

// placesOf counts the words one by one, so that it shares no rule with the program: number k of the list is at address k.
func placesOf(lines int64) []place {
	var list []place
	for line := int64(0); line < lines; line++ {
		list = append(list, place{line, 0}, place{line, 1})
	}
	return list
}

// setsOf deals lines to sets as cards are dealt to players.
func setsOf(sets int64, lines int64) []int64 {
	var list []int64
	set := int64(0)
	for line := int64(0); line < lines; line++ {
		list = append(list, set)
		set++
		if set == sets {
			set = 0
		}
	}
	return list
}

func checkNumbers(t *testing.T, c impl.Config, name string, at []int64, got int64, want int64) {
	t.Helper()
	if got != want {
		t.Errorf("%s(%+v, %v) = %d, want %d", name, c, at, got, want)
	}
}

func checkAddr(t *testing.T, c impl.Config, addr int64, line int64, word int64) {
	t.Helper()
	checkNumbers(t, c, "LineOf", []int64{addr}, impl.LineOf(c, addr), line)
	checkNumbers(t, c, "WordOf", []int64{addr}, impl.WordOf(c, addr), word)
}

func TestConfigOfEveryLayout(t *testing.T) {
	count := 0
	for c := range everyLayout {
		count++
		checkNumbers(t, c, "ConfigCode", nil, impl.ConfigCode(c), impl.CfOk)
		for addr, at := range placesOf(c.Lines) {
			checkAddr(t, c, int64(addr), at.line, at.word)
			checkNumbers(t, c, "AddrOf", []int64{at.line, at.word}, impl.AddrOf(c, at.line, at.word), int64(addr))
		}
		for line, set := range setsOf(c.Sets, c.Lines) {
			checkNumbers(t, c, "SetOf", []int64{int64(line)}, impl.SetOf(c, int64(line)), set)
		}
	}
	if count != 4*3*3*16 {
		t.Fatalf("looked at %d layouts", count)
	}
}

// Promise 2, told by the program's own functions alone.
func TestConfigAddrOfLineAndWordIsTheAddress(t *testing.T) {
	for c := range everyLayout {
		for addr := int64(0); addr < 2*c.Lines; addr++ {
			if got := impl.AddrOf(c, impl.LineOf(c, addr), impl.WordOf(c, addr)); got != addr {
				t.Errorf("%+v: AddrOf of LineOf and WordOf of %d is %d", c, addr, got)
			}
		}
		for line := int64(0); line < c.Lines; line++ {
			for word := int64(0); word < 2; word++ {
				addr := impl.AddrOf(c, line, word)
				if impl.LineOf(c, addr) != line || impl.WordOf(c, addr) != word {
					t.Errorf("%+v: AddrOf(%d, %d) = %d, which is of line %d, word %d", c, line, word, addr, impl.LineOf(c, addr), impl.WordOf(c, addr))
				}
			}
		}
	}
}

func TestConfigEnds(t *testing.T) {
	for c := range everyLayout {
		last := c.Lines - 1
		checkAddr(t, c, 0, 0, 0)
		checkAddr(t, c, 2*c.Lines-1, last, 1)
		checkAddr(t, c, -1, -1, -1)
		checkAddr(t, c, -2, -1, -1)
		checkAddr(t, c, 2*c.Lines, -1, -1)
		checkAddr(t, c, 2*c.Lines+1, -1, -1)
		rows := []struct {
			line, set, addr0, addr1 int64
		}{
			{-1, -1, -1, -1},
			{0, 0, 0, 1},
			{last, setsOf(c.Sets, c.Lines)[last], 2 * last, 2*last + 1},
			{c.Lines, -1, -1, -1},
		}
		for _, r := range rows {
			checkNumbers(t, c, "SetOf", []int64{r.line}, impl.SetOf(c, r.line), r.set)
			checkNumbers(t, c, "AddrOf", []int64{r.line, -1}, impl.AddrOf(c, r.line, -1), -1)
			checkNumbers(t, c, "AddrOf", []int64{r.line, 0}, impl.AddrOf(c, r.line, 0), r.addr0)
			checkNumbers(t, c, "AddrOf", []int64{r.line, 1}, impl.AddrOf(c, r.line, 1), r.addr1)
			checkNumbers(t, c, "AddrOf", []int64{r.line, 2}, impl.AddrOf(c, r.line, 2), -1)
		}
	}
}

func TestConfigOfFarNumbers(t *testing.T) {
	for c := range everyLayout {
		for _, n := range farNumbers {
			checkAddr(t, c, n, -1, -1)
			checkNumbers(t, c, "SetOf", []int64{n}, impl.SetOf(c, n), -1)
			checkNumbers(t, c, "AddrOf", []int64{n, 0}, impl.AddrOf(c, n, 0), -1)
			checkNumbers(t, c, "AddrOf", []int64{n, 1}, impl.AddrOf(c, n, 1), -1)
			checkNumbers(t, c, "AddrOf", []int64{0, n}, impl.AddrOf(c, 0, n), -1)
			checkNumbers(t, c, "AddrOf", []int64{n, n}, impl.AddrOf(c, n, n), -1)
		}
	}
}

func TestConfigEdgesOfFields(t *testing.T) {
	rows := []struct {
		c    impl.Config
		want int64
	}{
		{impl.Config{Cores: 1, Sets: 1, Ways: 1, Lines: 1}, impl.CfOk},
		{impl.Config{Cores: 4, Sets: 4, Ways: 4, Lines: 16}, impl.CfOk},
		{impl.Config{Cores: 0, Sets: 1, Ways: 1, Lines: 1}, impl.CfCores},
		{impl.Config{Cores: 5, Sets: 4, Ways: 4, Lines: 16}, impl.CfCores},
		{impl.Config{Cores: 1, Sets: 0, Ways: 1, Lines: 1}, impl.CfSets},
		{impl.Config{Cores: 2, Sets: 3, Ways: 2, Lines: 8}, impl.CfSets},
		{impl.Config{Cores: 4, Sets: 5, Ways: 4, Lines: 16}, impl.CfSets},
		{impl.Config{Cores: 4, Sets: 8, Ways: 4, Lines: 16}, impl.CfSets},
		{impl.Config{Cores: 1, Sets: 1, Ways: 0, Lines: 1}, impl.CfWays},
		{impl.Config{Cores: 2, Sets: 2, Ways: 3, Lines: 8}, impl.CfWays},
		{impl.Config{Cores: 4, Sets: 4, Ways: 5, Lines: 16}, impl.CfWays},
		{impl.Config{Cores: 4, Sets: 4, Ways: 8, Lines: 16}, impl.CfWays},
		{impl.Config{Cores: 1, Sets: 1, Ways: 1, Lines: 0}, impl.CfLines},
		{impl.Config{Cores: 4, Sets: 4, Ways: 4, Lines: 17}, impl.CfLines},
		{impl.Config{}, impl.CfCores},
		{impl.Config{Cores: 1}, impl.CfSets},
		{impl.Config{Cores: 1, Sets: 1}, impl.CfWays},
		{impl.Config{Cores: 1, Sets: 1, Ways: 1}, impl.CfLines},
	}
	for _, r := range rows {
		checkNumbers(t, r.c, "ConfigCode", nil, impl.ConfigCode(r.c), r.want)
		if r.want != impl.CfOk {
			checkRefused(t, r.c)
		}
	}
}

func TestConfigCodesHaveTheirNumbers(t *testing.T) {
	got := [5]int64{impl.CfOk, impl.CfCores, impl.CfSets, impl.CfWays, impl.CfLines}
	if got != [5]int64{0, 1, 2, 3, 4} {
		t.Errorf("the codes are %v", got)
	}
}

// field is one field of a layout: what it may be, what it may not, and its code.
type field struct {
	code         int64
	right, wrong []int64
	put          func(c *impl.Config, n int64)
}

func fieldsOfLayout() []field {
	return []field{
		{impl.CfCores, []int64{1, 2, 3, 4}, wrongCores, func(c *impl.Config, n int64) { c.Cores = n }},
		{impl.CfSets, rightSizes, wrongSizes, func(c *impl.Config, n int64) { c.Sets = n }},
		{impl.CfWays, rightSizes, wrongSizes, func(c *impl.Config, n int64) { c.Ways = n }},
		{impl.CfLines, []int64{1, 2, 15, 16}, wrongLines, func(c *impl.Config, n int64) { c.Lines = n }},
	}
}

func TestConfigOfOneWrongField(t *testing.T) {
	for c := range everyLayout {
		for _, f := range fieldsOfLayout() {
			for _, n := range f.wrong {
				bad := c
				f.put(&bad, n)
				checkNumbers(t, bad, "ConfigCode", nil, impl.ConfigCode(bad), f.code)
				checkRefused(t, bad)
			}
		}
	}
}

// Every choice of which fields are wrong: the first of them is told.
func TestConfigOfSeveralWrongFields(t *testing.T) {
	fields := fieldsOfLayout()
	for choice := int64(1); choice < 16; choice++ {
		bits := bitsOf(choice)
		for turn := range 15 {
			var c impl.Config
			first := int64(impl.CfOk)
			for i, f := range fields {
				list := f.right
				if bits[i] {
					list = f.wrong
					if first == impl.CfOk {
						first = f.code
					}
				}
				f.put(&c, list[(turn+3*i)%len(list)])
			}
			checkNumbers(t, c, "ConfigCode", nil, impl.ConfigCode(c), first)
			checkRefused(t, c)
		}
	}
}

// checkRefused asks of a layout that is not right for what every right one has, and for what none has.
func checkRefused(t *testing.T, c impl.Config) {
	t.Helper()
	for _, n := range append([]int64{-2, -1, 0, 1, 2, 3, 15, 16, 31, 32}, farNumbers...) {
		checkAddr(t, c, n, -1, -1)
		checkNumbers(t, c, "SetOf", []int64{n}, impl.SetOf(c, n), -1)
		for _, word := range []int64{-1, 0, 1, 2} {
			checkNumbers(t, c, "AddrOf", []int64{n, word}, impl.AddrOf(c, n, word), -1)
		}
	}
}

func TestConfigOrdinary(t *testing.T) {
	c := impl.Config{Cores: 3, Sets: 4, Ways: 1, Lines: 11}
	checkAddr(t, c, 13, 6, 1)
	checkAddr(t, c, 20, 10, 0)
	checkAddr(t, c, 21, 10, 1)
	checkAddr(t, c, 22, -1, -1)
	checkNumbers(t, c, "SetOf", []int64{10}, impl.SetOf(c, 10), 2)
	checkNumbers(t, c, "SetOf", []int64{11}, impl.SetOf(c, 11), -1)
	checkNumbers(t, c, "AddrOf", []int64{6, 1}, impl.AddrOf(c, 6, 1), 13)
	checkNumbers(t, c, "AddrOf", []int64{11, 0}, impl.AddrOf(c, 11, 0), -1)
}
