package tests

import (
	"fmt"
	"regexp"
	"slices"
	"strconv"
	"strings"
	"testing"

	"loop.example/g00342/impl"
)

// talk is lines, each with what is answered.
type talk []struct{ line, answer string }

func (l talk) lines() []string {
	var list []string
	for _, one := range l {
		list = append(list, one.line)
	}
	return list
}

func (l talk) answers() []string {
	var list []string
	for _, one := range l {
		list = append(list, one.answer)
	}
	return list
}

// endedLines is a text of these lines, each ended by its byte 10.
func endedLines(lines ...string) string {
	text := ""
	for _, line := range lines {
		text += line + "\n"
	}
	return text
}

func linesOfText(text string) []string {
	lines := strings.Split(text, "\n")
	return lines[:len(lines)-1]
}

// bencher and the ones below are the chapter's text over again, by what the other chapters' functions answer.
type bencher struct {
	programs [2][]impl.Op
	list     []impl.Desc
	f        impl.Fabric
}

var benchLayout = impl.Config{Cores: 2, Sets: 1, Ways: 1, Lines: 4}

// anew tells whether the fabric of these is a right one; the bencher is as it was where it is not.
func (b *bencher) anew(programs [2][]impl.Op, list []impl.Desc) bool {
	f, code := impl.NewFabric(benchLayout, programs[:], list)
	if code != impl.PgOk {
		return false
	}
	b.programs, b.list, b.f = programs, list, f
	return true
}

func (b *bencher) op(core int64, o impl.Op) (string, bool) {
	if core < 0 || core > 1 {
		return "", false
	}
	programs := b.programs
	programs[core] = append(slices.Clone(programs[core]), o)
	is := b.anew(programs, b.list)
	return fmt.Sprint(len(programs[core])), is
}

func (b *bencher) desc(d impl.Desc) (string, bool) {
	list := append(slices.Clone(b.list), d)
	is := b.anew(b.programs, list)
	return fmt.Sprint(len(list)), is
}

func (b *bencher) pick(n int64) (string, bool) {
	f, is := impl.Picked(b.f, n)
	if is {
		b.f = f
	}
	return fmt.Sprint(len(impl.Enabled(b.f))), is
}

func (b *bencher) end(seed int64) (string, bool) {
	f, count := impl.Ended(b.f, seed)
	if count >= 0 {
		b.f = f
	}
	return fmt.Sprint(count), count >= 0
}

func (b *bencher) told(core int64) (string, bool) {
	if core < 0 || core > 1 {
		return "", false
	}
	if list := b.f.Cores[core].Told; len(list) > 0 {
		return strings.Trim(fmt.Sprint(list), "[]"), true
	}
	return "none", true
}

func (b *bencher) line(line int64) (string, bool) {
	states, truth := impl.StatesOf(b.f, line), impl.TruthOf(b.f, line)
	if len(states) == 0 || len(truth) == 0 {
		return "", false
	}
	return strings.Trim(fmt.Sprint(append(states, truth...)), "[]"), true
}

func (b *bencher) ok() (string, bool) {
	letters := map[bool]string{true: "y", false: "n"}
	return letters[impl.Coherent(b.f)] + letters[impl.Fresh(b.f)] + letters[impl.InOrder(b.f)] + letters[impl.Finished(b.f)] + letters[impl.Exact(b.f)], true
}

// benchForm is a row of the chapter's table: the form of its line, and what is done by its numbers.
type benchForm struct {
	form *regexp.Regexp
	does func(b *bencher, n []int64) (string, bool)
}

var benchForms = []benchForm{
	{formOf("load", 2), func(b *bencher, n []int64) (string, bool) { return b.op(n[0], impl.Op{Kind: 1, Addr: n[1]}) }},
	{formOf("store", 3), func(b *bencher, n []int64) (string, bool) {
		return b.op(n[0], impl.Op{Kind: 2, Addr: n[1], A: n[2]})
	}},
	{formOf("add", 3), func(b *bencher, n []int64) (string, bool) {
		return b.op(n[0], impl.Op{Kind: 3, Addr: n[1], A: n[2]})
	}},
	{formOf("swap", 3), func(b *bencher, n []int64) (string, bool) {
		return b.op(n[0], impl.Op{Kind: 4, Addr: n[1], A: n[2]})
	}},
	{formOf("cas", 4), func(b *bencher, n []int64) (string, bool) {
		return b.op(n[0], impl.Op{Kind: 5, Addr: n[1], A: n[2], B: n[3]})
	}},
	{formOf("read", 1), func(b *bencher, n []int64) (string, bool) { return b.desc(readOf(n[0])) }},
	{formOf("write", 4), func(b *bencher, n []int64) (string, bool) { return b.desc(writeOf(n[0], n[1], n[2], n[3])) }},
	{formOf("pick", 1), func(b *bencher, n []int64) (string, bool) { return b.pick(n[0]) }},
	{formOf("end", 1), func(b *bencher, n []int64) (string, bool) { return b.end(n[0]) }},
	{formOf("told", 1), func(b *bencher, n []int64) (string, bool) { return b.told(n[0]) }},
	{formOf("line", 1), func(b *bencher, n []int64) (string, bool) { return b.line(n[0]) }},
	{formOf("ok", 0), func(b *bencher, n []int64) (string, bool) { return b.ok() }},
	{formOf("events", 0), func(b *bencher, n []int64) (string, bool) { return fmt.Sprint(len(b.f.Events)), true }},
}

func formOf(word string, numbers int) *regexp.Regexp {
	return regexp.MustCompile(`\A` + word + strings.Repeat(` (0|-?[1-9][0-9]{0,8})`, numbers) + `\z`)
}

func (b *bencher) says(line string) string {
	for _, row := range benchForms {
		words := row.form.FindStringSubmatch(line)
		if words == nil {
			continue
		}
		var n []int64
		for _, word := range words[1:] {
			number, _ := strconv.Atoi(word)
			n = append(n, int64(number))
		}
		if answer, is := row.does(b, n); is {
			return answer
		}
	}
	return "error"
}

// benchLinesBy goes over the text byte by byte.
func benchLinesBy(text string) []string {
	var lines []string
	var line []byte
	for i := range len(text) {
		if text[i] == 10 {
			lines = append(lines, string(line))
			line = nil
		} else {
			line = append(line, text[i])
		}
	}
	if len(line) > 0 {
		lines = append(lines, string(line))
	}
	return lines
}

func benchBy(text string) string {
	if len(text) > 20000 {
		return ""
	}
	lines := benchLinesBy(text)
	if len(lines) > 200 {
		return ""
	}
	b := &bencher{}
	b.anew(b.programs, nil)
	answers := ""
	for _, line := range lines {
		if line != "" {
			answers += b.says(line) + "\n"
		}
	}
	return answers
}

func checkBench(t *testing.T, why string, text string, want string) {
	t.Helper()
	if by := benchBy(text); by != want {
		t.Errorf("%s: by the text over again %q is answered by %q, want %q", why, text, by, want)
	}
	if got := impl.Bench(text); got != want {
		t.Errorf("%s: Bench(%q) = %q, want %q", why, text, got, want)
	}
}

// checkSame holds Bench against the text over again alone.
func checkSame(t *testing.T, text string) {
	t.Helper()
	if got, want := impl.Bench(text), benchBy(text); got != want {
		t.Errorf("Bench(%q) = %q, want %q", text, got, want)
	}
}

// checkTalk asks the lines all at once, with and without the last byte 10, and each beginning of them.
func checkTalk(t *testing.T, why string, l talk) {
	t.Helper()
	lines, answers := l.lines(), l.answers()
	checkBench(t, why, strings.Join(lines, "\n"), endedLines(answers...))
	stopIfFailed(t)
	for count := range len(lines) + 1 {
		checkBench(t, why, endedLines(lines[:count]...), endedLines(answers[:count]...))
		stopIfFailed(t)
	}
}

// One core writes a word: each step by hand.
func TestBenchOneStore(t *testing.T) {
	checkTalk(t, "one core writes", talk{
		{"ok", "yyyyy"}, {"events", "0"}, {"told 0", "none"}, {"line 0", "0 0 0 0"},
		{"store 0 1 5", "1"},
		{"ok", "yyynn"}, {"events", "0"}, {"told 0", "none"}, {"line 0", "0 0 0 0"},
		{"pick 0", "1"}, {"ok", "yyynn"}, {"line 0", "0 0 0 0"},
		{"pick 0", "1"}, {"ok", "yyynn"}, {"line 0", "0 0 0 0"}, {"events", "0"},
		{"pick 0", "1"}, {"ok", "yyynn"}, {"line 0", "3 0 0 5"}, {"events", "1"}, {"told 0", "0"}, {"told 1", "none"},
		{"pick 0", "0"}, {"ok", "yyyyy"}, {"line 0", "3 0 0 5"}, {"events", "1"}, {"line 1", "0 0 0 0"},
		{"pick 0", "error"}, {"end 0", "0"}, {"ok", "yyyyy"},
	})
}

// Two cores, of which one writes what the other one reads then; and the DMA.
func TestBenchTwoCoresByHand(t *testing.T) {
	checkTalk(t, "one writes, one reads", talk{
		{"store 0 0 5", "1"}, {"load 1 0", "1"},
		{"pick 0", "2"}, {"pick 1", "2"}, {"pick 1", "2"}, {"pick 0", "1"}, {"pick 5", "1"},
		{"line 0", "3 0 5 0"}, {"told 0", "0"}, {"told 1", "none"}, {"events", "1"}, {"ok", "yyynn"},
		{"pick 0", "1"}, {"pick 0", "1"}, {"pick 0", "1"}, {"line 0", "1 0 5 0"},
		{"pick 0", "1"}, {"line 0", "1 1 5 0"}, {"told 1", "5"}, {"events", "2"}, {"ok", "yyynn"},
		{"pick 0", "0"}, {"ok", "yyyyy"},
	})
	checkTalk(t, "the DMA writes and reads", talk{
		{"write 2 3 5 6", "1"}, {"read 2", "2"},
		{"pick 0", "1"}, {"line 2", "0 0 0 0"}, {"pick 0", "1"}, {"line 2", "0 0 5 6"}, {"events", "1"}, {"pick 0", "1"},
		{"pick 0", "1"}, {"pick 0", "1"}, {"events", "2"}, {"ok", "yyynn"}, {"pick 0", "0"},
		{"line 2", "0 0 5 6"}, {"told 0", "none"}, {"told 1", "none"}, {"ok", "yyyyy"},
	})
	checkTalk(t, "the document's own", talk{
		{"store 0 0 5", "1"}, {"load 1 0", "1"}, {"pick 0", "2"}, {"pick 1", "2"}, {"pick 1", "2"}, {"pick 0", "1"}, {"pick 5", "1"},
		{"line 0", "3 0 5 0"}, {"end 0", "5"}, {"told 0", "0"}, {"told 1", "5"}, {"line 0", "1 1 5 0"}, {"ok", "yyyyy"}, {"events", "2"},
		{"pick 0", "error"}, {"what", "error"}, {"load 2 0", "error"}, {"read 4", "error"}, {"write 0 0 1 1", "error"},
		{"read 1", "1"}, {"told 0", "none"}, {"events", "0"},
	})
}

// What an op is, is seen by what becomes of its word and what is told, at each core and each address.
func TestBenchOpsAreWhatTheySay(t *testing.T) {
	for core := range 2 {
		for addr := range 8 {
			for _, r := range []struct{ line, word, told string }{
				{"load C ADDR", "9990", "9990"},
				{"store C ADDR 12", "12", "0"},
				{"add C ADDR 12", "2", "9990"},
				{"add C ADDR 9", "9999", "9990"},
				{"add C ADDR 0", "9990", "9990"},
				{"swap C ADDR 12", "12", "9990"},
				{"cas C ADDR 9990 12", "12", "9990"},
				{"cas C ADDR 12 9990", "9990", "9990"},
				{"cas C ADDR 12 13", "9990", "9990"},
			} {
				put := strings.NewReplacer("C", fmt.Sprint(core), "ADDR", fmt.Sprint(addr)).Replace
				words := map[int]string{0: r.word + " 0", 1: "0 " + r.word}[addr%2]
				states := map[int]string{0: "3 0 ", 1: "0 3 "}[core]
				checkTalk(t, r.line, talk{
					{put("store C ADDR 9990"), "1"}, {put(r.line), "2"}, {"end 5", "5"},
					{put("told C"), "0 " + r.told}, {fmt.Sprintf("told %d", 1-core), "none"},
					{fmt.Sprintf("line %d", addr/2), states + words}, {fmt.Sprintf("line %d", (addr/2+1)%4), "0 0 0 0"}, {"events", "2"}, {"ok", "yyyyy"},
				})
			}
		}
	}
}

func TestBenchDescsAreWhatTheySay(t *testing.T) {
	for line := range 4 {
		here, there := fmt.Sprintf("line %d", line), fmt.Sprintf("line %d", (line+1)%4)
		for mask, words := range map[int]string{1: "0 0 5 0", 2: "0 0 0 6", 3: "0 0 5 6"} {
			checkTalk(t, "a write", talk{{fmt.Sprintf("write %d %d 5 6", line, mask), "1"}, {"end 0", "3"}, {here, words}, {there, "0 0 0 0"}, {"events", "1"}, {"ok", "yyyyy"}})
		}
		checkTalk(t, "a read", talk{{fmt.Sprintf("read %d", line), "1"}, {"end 0", "3"}, {here, "0 0 0 0"}, {"events", "1"}, {"ok", "yyyyy"}})
		checkTalk(t, "a read takes the line from who has written it", talk{
			{fmt.Sprintf("store 1 %d 5", 2*line), "1"}, {fmt.Sprintf("read %d", line), "1"},
			{"pick 0", "2"}, {"pick 1", "2"}, {"pick 1", "2"}, {"pick 1", "1"}, {here, "0 3 5 0"}, {"pick 1", "1"}, {"pick 0", "1"}, {"pick 0", "1"}, {here, "0 1 5 0"}, {"end 9", "2"},
			{here, "0 1 5 0"}, {"events", "2"}, {"told 1", "0"}, {"ok", "yyyyy"},
		})
	}
}

// benchEdges are all of an op's or a desc's words that are in range, at the ends of it, and all that are one past them.
type benchEdges struct{ in, out []string }

var (
	coreEdges = benchEdges{[]string{"0", "1"}, []string{"-1", "2", "4"}}
	addrEdges = benchEdges{[]string{"0", "7"}, []string{"-1", "8", "31"}}
	wordEdges = benchEdges{[]string{"0", "9999"}, []string{"-1", "10000"}}
	lineEdges = benchEdges{[]string{"0", "3"}, []string{"-1", "4", "15"}}
	maskEdges = benchEdges{[]string{"1", "2", "3"}, []string{"-1", "0", "4"}}
)

var givingRows = []struct {
	word  string
	edges []benchEdges
}{
	{"load", []benchEdges{coreEdges, addrEdges}},
	{"store", []benchEdges{coreEdges, addrEdges, wordEdges}},
	{"add", []benchEdges{coreEdges, addrEdges, wordEdges}},
	{"swap", []benchEdges{coreEdges, addrEdges, wordEdges}},
	{"cas", []benchEdges{coreEdges, addrEdges, wordEdges, wordEdges}},
	{"read", []benchEdges{lineEdges}},
	{"write", []benchEdges{lineEdges, maskEdges, wordEdges, wordEdges}},
}

// everyEdge goes through all lines of this word with words in range and past it, and tells whether all are in range.
func everyEdge(line string, edges []benchEdges, is bool, tell func(line string, is bool)) {
	if len(edges) == 0 {
		tell(line, is)
		return
	}
	for _, word := range edges[0].in {
		everyEdge(line+" "+word, edges[1:], is, tell)
	}
	for _, word := range edges[0].out {
		everyEdge(line+" "+word, edges[1:], false, tell)
	}
}

func TestBenchEachOpAndDescAtItsLimits(t *testing.T) {
	counts := map[bool]int{}
	for _, r := range givingRows {
		everyEdge(r.word, r.edges, true, func(line string, is bool) {
			counts[is]++
			// Of each core one is there already, and one Desc, so that it would be the second one.
			want := map[bool]string{true: "2", false: "error"}[is]
			checkBench(t, "at its limits", endedLines("load 0 3", "load 1 4", "read 2", line), endedLines("1", "1", "1", want))
		})
		stopIfFailed(t)
	}
	if counts[true] < 60 || counts[false] < 600 {
		t.Errorf("only %v were asked", counts)
	}
}

// The numbers of a right line can be all that are in range, and none besides.
func TestBenchRangesOfTellingLines(t *testing.T) {
	for n := -3; n <= 20; n++ {
		for _, r := range []struct {
			word, answer string
			most         int
		}{{"told", "none", 1}, {"line", "0 0 0 0", 3}} {
			want := r.answer
			if n < 0 || n > r.most {
				want = "error"
			}
			checkBench(t, "nothing is given", fmt.Sprintf("%s %d", r.word, n), want+"\n")
		}
	}
}

func TestBenchThirtiethAndThirtyFirst(t *testing.T) {
	ops := []string{"load C 7", "store C 7 1", "add C 7 1", "swap C 7 1", "cas C 7 1 1"}
	for core := range 2 {
		put := strings.NewReplacer("C", fmt.Sprint(core)).Replace
		var l talk
		add := func(line string, answer string) { l = append(l, talk{{line, answer}}...) }
		for i := range 30 {
			add(put(ops[i%5]), fmt.Sprint(i+1))
		}
		for _, op := range ops {
			add(put(op), "error")
		}
		// The other core and the DMA have room still.
		add(fmt.Sprintf("load %d 7", 1-core), "1")
		add("read 3", "1")
		add(put("load C 0"), "error")
		checkTalk(t, "31 Ops", l)
		answers := linesOfText(impl.Bench(endedLines(append(l.lines(), "end 77", put("told C"), "events", "ok")...)))
		last := answers[len(answers)-3:]
		if len(strings.Fields(last[0])) != 30 || last[1] != "32" || last[2] != "yyyyy" {
			t.Errorf("of 30 Ops there is %q", last)
		}
	}
	var l talk
	for i := range 30 {
		line := map[int]string{0: "read 3", 1: "write 3 1 1 1"}[i%2]
		l = append(l, talk{{line, fmt.Sprint(i + 1)}}...)
	}
	checkTalk(t, "31 Descs", append(l, talk{{"read 0", "error"}, {"write 0 3 0 0", "error"}, {"load 0 0", "1"}, {"load 1 0", "1"}, {"read 3", "error"}, {"end 0", "100"}, {"events", "32"}, {"line 3", "0 0 1 0"}, {"ok", "yyyyy"}}...))
}

// All that may be given is given: 90 lines, and the one behind each list is refused.
func TestBenchAllListsFull(t *testing.T) {
	var l talk
	for i := range 30 {
		l = append(l, talk{{"add 0 4 1", fmt.Sprint(i + 1)}, {"read 2", fmt.Sprint(i + 1)}, {"add 1 4 2", fmt.Sprint(i + 1)}}...)
	}
	l = append(l, talk{{"add 0 4 1", "error"}, {"add 1 4 2", "error"}, {"read 2", "error"}}...)
	checkBench(t, "all lists are full", endedLines(l.lines()...), endedLines(l.answers()...))
	for _, seed := range []string{"0", "1", "999", "65535"} {
		text := endedLines(append(l.lines(), "end "+seed, "line 2", "events", "ok", "pick 0")...)
		checkSame(t, text)
		answers := linesOfText(impl.Bench(text))
		last := answers[len(answers)-4:]
		if !strings.HasSuffix(last[0], " 90 0") || last[1] != "90" || last[2] != "yyyyy" || last[3] != "error" {
			t.Errorf("of all lists full there is %q", last)
		}
	}
}

// rightLines are right ones of each word, with words that are no other one's.
var rightLines = []string{"load 0 3", "store 1 3 7", "add 0 4 7", "swap 1 4 7", "cas 0 3 0 7", "read 1", "write 1 3 7 8", "pick 1", "end 77", "told 0", "line 1", "ok", "events"}

// noNumbers are words that are no number, whatever they may be read as elsewhere.
var noNumbers = []string{
	"x", "-", "+", "--1", "-0", "+0", "+1", "00", "01", "001", "-01", "-00", "000000000", "0000000001", "1000000000", "-1000000000", "9999999999", "10000000000000000000000", "9223372036854775807", "-9223372036854775808", "18446744073709551616",
	"1.0", "1.", ".1", "1e0", "0x1", "0b1", "0o1", "1_0", "1,0", "1a", "a1", "1-", "1+", "one", "\t1", "1\t", "1\r", "\x001", "1\x00", "\v1", "1\f", "\xa01", "1\xc2\xa0", "\u06611", "\u0661", "\uff11", "\u00b9", "\u22121", "\xff", "'1'", "\"1\"", "1;", "(1)",
}

// withWord is the line with another word in this place.
func withWord(line string, place int, word string) string {
	words := strings.Split(line, " ")
	words[place] = word
	return strings.Join(words, " ")
}

// spoiltLines are all that are like a right one, but for one thing: each is an error.
func spoiltLines(line string) []string {
	words := strings.Split(line, " ")
	list := []string{" " + line, line + " ", "  " + line, line + "  ", " " + line + " ", "\t" + line, line + "\t", line + "\r", "\r" + line, line + "\x00", line + " 0", line + " x", line + "  0", line + " ok", line + " " + line, strings.ToUpper(line), strings.Repeat(line+" ", 3)}
	for place := range words {
		fewer := slices.Delete(slices.Clone(words), place, place+1)
		list = append(list, strings.Join(fewer, " "))
		list = append(list, strings.Join(slices.Insert(slices.Clone(words), place, "0"), " "), strings.Join(slices.Insert(slices.Clone(words), place, ""), " "), strings.Join(slices.Insert(slices.Clone(words), place, words[place]), " "))
		list = append(list, withWord(line, place, ""))
		for _, word := range noNumbers {
			list = append(list, withWord(line, place, word))
		}
		if place > 0 {
			for _, gap := range []string{"", "\t", "  ", "   ", " \t", "\xa0", "\u00a0", "\u2003", ",", ", ", "\x00", "\r", "\v"} {
				list = append(list, strings.Join(words[:place], " ")+gap+strings.Join(words[place:], " "))
			}
		}
	}
	for _, word := range []string{"Load", "loads", "loa", "lo ad", "stor", "subtract", "write3", "ends", "tell", "lines", "okay", "o", "event", "none", "error", "y", "0", "-1", "9"} {
		list = append(list, withWord(line, 0, word))
	}
	// A line without a byte is none, and no error.
	return slices.DeleteFunc(list, func(one string) bool { return one == "" })
}

// whatThereIs asks all that can be told, goes on to the end, asks again, and gives one more to each.
var whatThereIs = []string{
	"ok", "events", "told 0", "told 1", "line 0", "line 1", "line 2", "line 3", "pick 1", "ok", "line 1", "end 4",
	"ok", "events", "told 0", "told 1", "line 0", "line 1", "line 2", "line 3", "load 0 0", "load 1 1", "read 0", "end 9",
	"ok", "events", "told 0", "told 1", "line 0", "line 1", "line 2", "line 3",
}

// benchPasts are what was done ahead: nothing, something given, midway, at the end.
var benchPasts = [][]string{
	{},
	{"add 0 2 5", "load 1 3", "store 1 2 8", "write 1 2 3 4", "read 1"},
	{"add 0 2 5", "load 1 3", "store 1 2 8", "write 1 2 3 4", "read 1", "pick 2", "pick 0", "pick 1", "pick 3", "pick 5", "pick 0", "pick 2", "pick 4", "pick 7", "pick 1"},
	{"add 0 2 5", "load 1 3", "store 1 2 8", "write 1 2 3 4", "read 1", "end 3"},
}

// checkErrors holds that each of these is answered by error, and that all is as it was behind them.
func checkErrors(t *testing.T, past []string, wrong []string) {
	t.Helper()
	ahead := impl.Bench(endedLines(past...))
	behind := strings.TrimPrefix(impl.Bench(endedLines(slices.Concat(past, whatThereIs)...)), ahead)
	for some := range slices.Chunk(wrong, 60) {
		got := impl.Bench(endedLines(slices.Concat(past, some, whatThereIs)...))
		if got == ahead+strings.Repeat("error\n", len(some))+behind {
			continue
		}
		for i, answer := range linesOfText(strings.TrimPrefix(got, ahead))[:len(some)] {
			if answer != "error" {
				t.Errorf("%q behind %q is answered by %q", some[i], past, answer)
			}
		}
		t.Errorf("behind %q and these of %q it is %q, want %q in the end", past, some, got, behind)
	}
	stopIfFailed(t)
}

func TestBenchErrorsOfEachWord(t *testing.T) {
	for _, past := range benchPasts {
		// Else nothing would be seen of what a line that is refused did all the same.
		checkSame(t, endedLines(slices.Concat(past, whatThereIs)...))
		stopIfFailed(t)
		for _, line := range rightLines {
			if answer := linesOfText(impl.Bench(endedLines(append(slices.Clone(past), line)...))); line != "pick 1" && answer[len(past)] == "error" {
				t.Errorf("%q behind %q is an error itself", line, past)
			}
			checkErrors(t, past, spoiltLines(line))
		}
	}
}

// What is refused is as one that is no line: behind it all is as it was, whatever was done ahead.
func TestBenchErrorsOfWhatIsRefused(t *testing.T) {
	var wrong []string
	for _, r := range givingRows {
		everyEdge(r.word, r.edges, true, func(line string, is bool) {
			if !is && strings.Count(line, "9999") == 0 {
				wrong = append(wrong, line)
			}
		})
	}
	for _, far := range []string{"-999999999", "-2147483648", "-65536", "-2", "-1", "65536", "65537", "16777216", "999999999"} {
		wrong = append(wrong, "end "+far, "told "+far, "line "+far, "load "+far+" 0", "load 0 "+far, "store 1 0 "+far, "cas 1 0 0 "+far, "read "+far, "write 0 "+far+" 1 2", "write 0 1 "+far+" 1", "write 0 1 1 "+far)
		if strings.HasPrefix(far, "-") {
			wrong = append(wrong, "pick "+far)
		}
	}
	for _, past := range benchPasts {
		checkErrors(t, past, wrong)
	}
}

// Behind a full list all stays as it was too, also midway.
func TestBenchErrorsOfFullLists(t *testing.T) {
	var full []string
	for range 30 {
		full = append(full, "add 0 2 1", "load 1 2", "read 1")
	}
	more := []string{"add 0 2 1", "load 1 2", "read 1", "store 0 0 0", "swap 1 7 1", "cas 0 0 0 0", "write 3 3 1 1"}
	probe := []string{"ok", "events", "told 0", "told 1", "line 1", "end 8", "ok", "events", "told 0", "told 1", "line 1"}
	for _, past := range [][]string{full, append(slices.Clone(full), "pick 0", "pick 2", "pick 1", "pick 1", "pick 0", "pick 3", "pick 1"), append(slices.Clone(full), "end 5")} {
		ahead := impl.Bench(endedLines(past...))
		behind := strings.TrimPrefix(impl.Bench(endedLines(slices.Concat(past, probe)...)), ahead)
		got := impl.Bench(endedLines(slices.Concat(past, more, probe)...))
		if want := ahead + strings.Repeat("error\n", len(more)) + behind; got != want {
			t.Errorf("it is %q, want %q", got, want)
		}
	}
}

// Numbers are of one form, each in each place of each line: what has another one is an error, whatever it would mean.
func TestBenchFormsOfNumbers(t *testing.T) {
	for _, r := range []struct{ line, answer string }{
		{"pick 0", "3"}, {"pick 00", "error"}, {"pick -0", "error"}, {"pick +0", "error"}, {"pick -", "error"}, {"pick ", "error"},
		{"pick 1", "3"}, {"pick 01", "error"}, {"pick +1", "error"}, {"pick -1", "error"}, {"pick 001", "error"},
		{"pick 99999999", "3"}, {"pick 999999999", "3"}, {"pick 100000000", "3"}, {"pick 123456789", "3"},
		{"pick 1000000000", "error"}, {"pick 0999999999", "error"}, {"pick 9999999999", "error"}, {"pick 1234567890", "error"}, {"pick 0000000000", "error"}, {"pick 000000000", "error"},
		{"pick -999999999", "error"}, {"pick -1000000000", "error"},
		{"pick 4294967296", "error"}, {"pick 18446744073709551616", "error"}, {"pick 18446744073709551617", "error"},
		{"end 77", "11"}, {"end 077", "error"}, {"end +77", "error"}, {"end 0x4d", "error"},
		{"told 0", "none"}, {"told 00", "error"}, {"told -0", "error"}, {"told 4294967296", "error"},
		{"line 3", "0 0 0 0"}, {"line 03", "error"}, {"line +3", "error"}, {"line 18446744073709551619", "error"},
		{"load 0 0", "2"}, {"load 00 0", "error"}, {"load 0 00", "error"}, {"load -0 0", "error"}, {"load 0 -0", "error"}, {"load 0 07", "error"}, {"load 0 +7", "error"},
		{"store 0 0 9999", "2"}, {"store 0 0 09999", "error"}, {"store 0 0 00", "error"}, {"store 0 0 -0", "error"}, {"store 0 0 999999999", "error"},
		{"read 1", "2"}, {"read 01", "error"}, {"read -0", "error"}, {"write 0 3 0 0", "2"}, {"write 0 03 0 0", "error"}, {"write 0 3 00 0", "error"}, {"write 0 3 0 -0", "error"}, {"write -0 3 0 0", "error"},
	} {
		// Nobody here goes to another one's line, so that all are as many steps in whatever order.
		checkBench(t, "a form of a number", endedLines("store 0 0 5", "load 1 2", "read 2", r.line), endedLines("1", "1", "1", r.answer))
	}
}

// Picks of nine digits are modulo how many are Enabled, as small ones are.
func TestBenchGreatPicks(t *testing.T) {
	given := []string{"store 0 0 5", "load 1 0", "read 0"}
	for great, small := range map[string]string{"999999999": "0", "999999998": "2", "999999997": "1", "100000000": "1", "3": "0", "4": "1", "5": "2", "600000001": "1"} {
		one := impl.Bench(endedLines(slices.Concat(given, []string{"pick " + great}, whatThereIs)...))
		if other := impl.Bench(endedLines(slices.Concat(given, []string{"pick " + small}, whatThereIs)...)); one != other {
			t.Errorf("pick %s: it is %q, and pick %s: %q", great, one, small, other)
		}
	}
}

// Each line behind an op or desc begins anew: nothing is to be seen of what was picked ahead.
func TestBenchBeginsAnew(t *testing.T) {
	given := []string{"add 0 2 5", "load 1 3", "write 1 2 3 4"}
	done := [][]string{{"pick 0"}, {"pick 1", "pick 1", "pick 2"}, {"pick 2", "pick 2", "pick 2", "pick 0"}, {"end 0"}, {"pick 1", "end 9"}, {"end 65535", "ok", "events"}}
	gives := []string{"load 0 0", "store 1 2 8", "add 0 3 1", "swap 1 3 9", "cas 0 2 0 6", "read 1", "write 2 1 7 7"}
	follows := append([]string{"pick 0", "pick 1", "pick 2", "pick 3", "pick 4", "end 0", "end 65535", "end 12345"}, rightLines...)
	for _, past := range done {
		for _, give := range gives {
			for _, follow := range follows {
				rest := append([]string{follow}, whatThereIs...)
				plain := slices.Concat(given, []string{give})
				want := strings.TrimPrefix(impl.Bench(endedLines(append(plain, rest...)...)), impl.Bench(endedLines(plain...)))
				text := endedLines(slices.Concat(given, past, []string{give}, rest)...)
				if got := impl.Bench(text); !strings.HasSuffix(got, "\n"+want) || len(linesOfText(got)) != len(linesOfText(text)) {
					t.Errorf("Bench(%q) = %q, want %q in the end", text, got, want)
				}
			}
		}
		stopIfFailed(t)
	}
}

func TestBenchBeginsAnewByHand(t *testing.T) {
	checkTalk(t, "an op begins anew", talk{
		{"store 0 0 5", "1"}, {"end 0", "4"}, {"line 0", "3 0 5 0"}, {"told 0", "0"}, {"events", "1"}, {"ok", "yyyyy"},
		{"load 1 7", "1"}, {"line 0", "0 0 0 0"}, {"told 0", "none"}, {"events", "0"}, {"ok", "yyynn"},
		{"pick 0", "2"}, {"pick 1", "2"}, {"line 0", "0 0 0 0"}, {"pick 1", "2"}, {"line 0", "3 0 5 0"},
		{"read 1", "1"}, {"pick 2", "3"}, {"line 0", "0 0 0 0"}, {"events", "0"}, {"end 1", "10"}, {"events", "3"}, {"ok", "yyyyy"},
		{"load 2 7", "error"}, {"events", "3"}, {"ok", "yyyyy"}, {"load 0 0", "2"}, {"events", "0"}, {"ok", "yyynn"},
		{"load 0 0", "3"}, {"load 0 0", "4"}, {"end 0", "14"}, {"told 0", "0 5 5 5"}, {"told 1", "0"},
	})
}

func TestBenchPicksWhereNoneIsEnabled(t *testing.T) {
	checkTalk(t, "nothing is given", talk{{"pick 0", "error"}, {"pick 1", "error"}, {"pick 999999999", "error"}, {"end 0", "0"}, {"end 65535", "0"}, {"end -1", "error"}, {"end 65536", "error"}, {"ok", "yyyyy"}, {"events", "0"}})
	checkTalk(t, "it is at its end", talk{{"load 1 7", "1"}, {"end 65535", "4"}, {"pick 0", "error"}, {"pick 7", "error"}, {"end 0", "0"}, {"end 65536", "error"}, {"told 1", "0"}, {"line 3", "0 2 0 0"}, {"ok", "yyyyy"}, {"events", "1"}})
	checkTalk(t, "it is picked to its end", talk{{"load 0 7", "1"}, {"pick 0", "1"}, {"pick 9", "1"}, {"pick 8", "1"}, {"pick 7", "0"}, {"pick 0", "error"}, {"line 3", "2 0 0 0"}, {"end 1", "0"}, {"pick 0", "error"}})
}

// end is picks by the seed and the numbers that come of it, one line each.
func TestBenchEndsArePicks(t *testing.T) {
	given := []string{"add 0 2 5", "load 1 3", "store 1 2 8", "write 1 2 3 4", "add 0 6 1", "read 1"}
	for _, seed := range []int64{0, 1, 2, 7, 4095, 25173, 32767, 32768, 65534, 65535} {
		for _, past := range [][]string{{}, {"pick 0"}, {"pick 2", "pick 1", "pick 4", "pick 0"}} {
			ahead := slices.Concat(given, past)
			ended := linesOfText(impl.Bench(endedLines(slices.Concat(ahead, []string{fmt.Sprintf("end %d", seed)}, whatThereIs)...)))
			count, err := strconv.Atoi(ended[len(ahead)])
			if err != nil || count < 10 {
				t.Fatalf("seed %d: it is %q", seed, ended)
			}
			var picks []string
			for n := seed; len(picks) < count; n = seedNext(n) {
				picks = append(picks, fmt.Sprintf("pick %d", n))
			}
			picked := linesOfText(impl.Bench(endedLines(slices.Concat(ahead, picks, whatThereIs)...)))
			if picked[len(ahead)+count-1] != "0" || !slices.Equal(picked[len(ahead)+count:], ended[len(ahead)+1:]) {
				t.Errorf("seed %d: by picks it is %q, want %q", seed, picked, ended)
			}
		}
	}
}

func TestBenchLinesAndTheirEnds(t *testing.T) {
	for _, r := range []struct{ text, want string }{
		{"", ""}, {"\n", ""}, {"\n\n\n", ""},
		{"ok", "yyyyy\n"}, {"ok\n", "yyyyy\n"}, {"\nok", "yyyyy\n"}, {"\n\nok\n\n", "yyyyy\n"},
		{"ok\nevents", "yyyyy\n0\n"}, {"ok\nevents\n", "yyyyy\n0\n"}, {"ok\n\nevents", "yyyyy\n0\n"}, {"\n\n\nok\n\n\nevents\n\n", "yyyyy\n0\n"},
		{"load 0 0\n\nload 0 1\n\n\nend 0\n\ntold 0", "1\n2\n5\n0 0\n"},
		{"ok\r\nevents\r\n", "error\nerror\n"}, {"ok\revents", "error\n"}, {"ok events", "error\n"}, {"ok;events", "error\n"}, {"ok\x00", "error\n"}, {"ok\u2028events", "error\n"}, {"ok\x85events", "error\n"}, {"ok\vevents\fok", "error\n"},
		{" ", "error\n"}, {" \n", "error\n"}, {"\n \n", "error\n"}, {"\t", "error\n"}, {"\r", "error\n"}, {"\x00", "error\n"}, {"ok\n \nok", "yyyyy\nerror\nyyyyy\n"}, {"  ", "error\n"},
		{"\xef\xbb\xbfok", "error\n"}, {"x", "error\n"}, {"error", "error\n"}, {"none", "error\n"},
	} {
		checkBench(t, "lines and their ends", r.text, r.want)
	}
}

// How many bytes there are, at the limit and one past it.
func TestBenchMaxBench(t *testing.T) {
	for _, r := range []struct {
		ahead, fill, behind, want string
	}{
		{"", "x", "", "error\n"}, {"", " ", "", "error\n"}, {"", "0", "", "error\n"}, {"", "\xff", "", "error\n"}, {"", "x", "\n", "error\n"},
		{"load 0 0\nend 0\n", "x", "\ntold 0\nok", "1\n4\nerror\n0\nyyyyy\n"},
		{"ok\n", "1", "\nevents\n", "yyyyy\nerror\n0\n"},
		{"ok\npick ", "1", "", "yyyyy\nerror\n"}, {"line ", "0", "\nok", "error\nyyyyy\n"}, {"ok", " ", "\nok", "error\nyyyyy\n"},
		{"load 0 0\n", "load 0 0 ", "\nend 0", "1\nerror\n4\n"},
	} {
		room := impl.MaxBench - len(r.ahead) - len(r.behind)
		for _, less := range []int{0, 1, 2, 1000} {
			fill := strings.Repeat(r.fill, room)[:room-less]
			checkBench(t, "at most MaxBench", r.ahead+fill+r.behind, r.want)
		}
		for _, more := range []int{1, 2, 1000, 1000000} {
			fill := strings.Repeat(r.fill, room+more)[:room+more]
			checkBench(t, "more than MaxBench", r.ahead+fill+r.behind, "")
		}
	}
	full := "ok" + strings.Repeat("\nok", 199)
	checkBench(t, "many bytes and many lines", full+strings.Repeat("k", impl.MaxBench-len(full)), strings.Repeat("yyyyy\n", 199)+"error\n")
	checkBench(t, "one byte more", full+strings.Repeat("k", impl.MaxBench-len(full)+1), "")
	if impl.MaxBench != 20000 || impl.MaxLines != 200 {
		t.Errorf("MaxBench is %d, and MaxLines %d", impl.MaxBench, impl.MaxLines)
	}
}

// How many lines there are, at the limit and one past it: those without a byte and those that are errors count as all others.
func TestBenchMaxLines(t *testing.T) {
	for _, r := range []struct{ line, answer string }{{"ok\n", "yyyyy\n"}, {"events\n", "0\n"}, {"\n", ""}, {"what\n", "error\n"}, {" \n", "error\n"}, {"end 0\n", "0\n"}, {"pick 0\n", "error\n"}} {
		for _, count := range []int{1, 2, 198, 199} {
			ahead, answers := strings.Repeat(r.line, count), strings.Repeat(r.answer, count)
			checkBench(t, "at most MaxLines", ahead, answers)
			checkBench(t, "at most MaxLines", ahead+"told 0\n", answers+"none\n")
			checkBench(t, "at most MaxLines, the last one not ended", ahead+"told 0", answers+"none\n")
			checkBench(t, "at most MaxLines", "told 1\n"+ahead, "none\n"+answers)
		}
		for _, count := range []int{200, 201, 250, 1000} {
			ahead := strings.Repeat(r.line, count)
			if count == 200 {
				checkBench(t, "just MaxLines", ahead, strings.Repeat(r.answer, 200))
			} else {
				checkBench(t, "more than MaxLines", ahead, "")
			}
			for _, one := range []string{"told 0\n", "told 0", "x", " "} {
				checkBench(t, "more than MaxLines", ahead+one, "")
				checkBench(t, "more than MaxLines", "ok\n"+ahead+one, "")
			}
			checkBench(t, "more than MaxLines", "told 1\n"+ahead, "")
		}
	}
	half := strings.Repeat("\nload 0 0\n", 15)
	checkBench(t, "lines of both kinds", half+strings.Repeat("\n", 169)+"ok", endedLines("1", "2", "3", "4", "5", "6", "7", "8", "9", "10", "11", "12", "13", "14", "15", "yyynn"))
	checkBench(t, "one more", half+strings.Repeat("\n", 170)+"ok", "")
}

// Any byte at all: alone, and in each place of each right line, put in and put over.
func TestBenchOfAnyByte(t *testing.T) {
	for n := range 256 {
		b := string([]byte{byte(n)})
		want := "error\n"
		if n == 10 {
			want = ""
		}
		checkBench(t, "one byte", b, want)
		checkBench(t, "one byte between", "ok\n"+b+"\nok", "yyyyy\n"+want+"yyyyy\n")
	}
	for _, line := range rightLines {
		for at := range len(line) + 1 {
			for from := range 4 {
				in, over := "add 0 3 5\nload 1 2\npick 1\n", "add 0 3 5\nload 1 2\npick 1\n"
				for n := range 64 {
					b := string([]byte{byte(64*from + n)})
					in += line[:at] + b + line[at:] + "\n"
					over += line[:at] + b + line[min(at+1, len(line)):] + "\n"
				}
				checkSame(t, in+"events\nend 0\nline 1")
				checkSame(t, over+"events\nend 0\nline 1")
			}
		}
		stopIfFailed(t)
	}
}

func TestBenchOfAnyBytes(t *testing.T) {
	d := &dice{20}
	alphabets := []string{"", "\n 0123456789-", "\n loadstreawpckinv 01239-", "ok\n \n", "events\n", "load 0 1\n\n"}
	for range 3000 {
		alphabet := alphabets[d.roll(int64(len(alphabets)))]
		var text []byte
		for range d.roll(120) {
			if alphabet == "" {
				text = append(text, byte(d.roll(256)))
			} else {
				text = append(text, alphabet[d.roll(int64(len(alphabet)))])
			}
		}
		checkSame(t, string(text))
		if by := linesOfText(impl.Bench(string(text))); len(by) != len(slices.DeleteFunc(benchLinesBy(string(text)), func(line string) bool { return line == "" })) {
			t.Errorf("Bench(%q) has %d answers", text, len(by))
		}
	}
	for _, length := range []int64{19999, 20000, 20001, 40000} {
		for range 20 {
			text := make([]byte, length)
			for i := range text {
				text[i] = byte(d.roll(256))
				if text[i] == 10 && d.roll(2) == 0 {
					text[i] = 0
				}
			}
			checkSame(t, string(text))
		}
	}
}

// number is a word of a line: in range of it more often than not, and now and then no number at all.
func (d *dice) number(count int64) string {
	switch d.roll(60) {
	case 0:
		return noNumbers[d.roll(int64(len(noNumbers)))]
	case 1:
		return fmt.Sprint(count)
	case 2:
		return "-1"
	case 3:
		return fmt.Sprint(d.roll(1 << 31))
	}
	return fmt.Sprint(d.roll(count))
}

func (d *dice) givingLine() string {
	core, addr, a, b := d.number(2), d.number(8), d.number(4), d.number(4)
	switch d.roll(8) {
	case 0:
		return "load " + core + " " + addr
	case 1:
		return "store " + core + " " + addr + " " + a
	case 2, 3:
		return "add " + core + " " + addr + " " + a
	case 4:
		return "swap " + core + " " + addr + " " + a
	case 5:
		return "cas " + core + " " + addr + " " + a + " " + b
	case 6:
		return "read " + a
	}
	return "write " + d.number(4) + " " + a + " " + d.number(10000) + " " + b
}

func (d *dice) otherLine() string {
	switch d.roll(12) {
	case 0:
		return "end " + d.number(65536)
	case 1:
		return "told " + d.number(2)
	case 2:
		return "line " + d.number(4)
	case 3:
		return "ok"
	case 4:
		return "events"
	case 5:
		return rightLines[d.roll(int64(len(rightLines)))] + []string{"", " ", " 0", "\r", "0", "\n"}[d.roll(6)]
	}
	return "pick " + d.number(12)
}

// benchLines are some that give, then some that do and tell, and so on.
func (d *dice) benchLines(length int) []string {
	var lines []string
	for len(lines) < length {
		for range d.roll(12) {
			lines = append(lines, d.givingLine())
		}
		for range d.roll(40) {
			lines = append(lines, d.otherLine())
		}
	}
	return lines[:length]
}

// Promise 20: long texts of all kinds, line by line as the chapters tell; and ok tells of promises 17 to 19.
func TestBenchLongTexts(t *testing.T) {
	d := &dice{21}
	words := map[string]int{}
	for i := range 150 {
		lines := d.benchLines(int(1 + d.roll(190)))
		text := strings.Join(lines, "\n")
		if i%2 == 0 {
			text += "\n"
		}
		checkSame(t, text)
		asked := slices.DeleteFunc(benchLinesBy(text), func(line string) bool { return line == "" })
		answers := linesOfText(impl.Bench(text))
		if len(asked) > 200 {
			continue
		}
		for k, line := range asked {
			if k >= len(answers) {
				break
			}
			word, _, _ := strings.Cut(line, " ")
			if answers[k] == "error" {
				word = "error"
			}
			words[word]++
			if word == "ok" && answers[k] != "yyyyy" && answers[k] != "yyynn" {
				t.Errorf("ok in %q is %q", text, answers[k])
			}
		}
		stopIfFailed(t)
	}
	for _, word := range []string{"load", "store", "add", "swap", "cas", "read", "write", "pick", "end", "told", "line", "ok", "events", "error"} {
		if words[word] < 50 {
			t.Errorf("%s was answered only %d times", word, words[word])
		}
	}
}

// What comes later changes no answer ahead of it.
func TestBenchLaterLinesChangeNothingAhead(t *testing.T) {
	d := &dice{22}
	for range 20 {
		lines := d.benchLines(30)
		all := impl.Bench(endedLines(lines...))
		for count := range len(lines) + 1 {
			ahead := impl.Bench(endedLines(lines[:count]...))
			if !strings.HasPrefix(all, ahead) || impl.Bench(strings.TrimSuffix(endedLines(lines[:count]...), "\n")) != ahead {
				t.Fatalf("of the first %d of %q it is %q, and of all %q", count, lines, ahead, all)
			}
			for _, later := range []string{"what", "load 0 0", "end 0", "\n\n\n", "\xff\x00", "pick 0"} {
				if got := impl.Bench(endedLines(append(slices.Clone(lines[:count]), later)...)); !strings.HasPrefix(got, ahead) {
					t.Fatalf("%q behind the first %d of %q: it is %q, and without it %q", later, count, lines, got, ahead)
				}
			}
		}
	}
}

// One text may be asked many times, with others between: nothing is kept from call to call.
func TestBenchKeepsNothing(t *testing.T) {
	text := endedLines("add 0 2 5", "load 1 3", "pick 1", "end 7", "told 0", "told 1", "line 1", "ok", "events")
	want := impl.Bench(text)
	for _, other := range []string{"", "load 0 0", "end 0", text + text, strings.Repeat("x", 20001), endedLines("store 1 7 9", "end 3")} {
		impl.Bench(other)
		if got := impl.Bench(text); got != want {
			t.Errorf("behind Bench(%q) it is %q, want %q", other, got, want)
		}
	}
	checkSame(t, text)
}

// Two cores add to one word: by each pick that there can be the sum is right, and each was told what was there before.
func TestBenchTwoCoresAddByEachPick(t *testing.T) {
	for _, given := range [][]string{{"add 0 6 3", "add 1 6 4"}, {"add 0 6 3", "add 1 6 4", "read 3"}} {
		// A way to each fabric that can come of these, by picks.
		b := &bencher{}
		b.anew(b.programs, nil)
		for _, line := range given {
			b.says(line)
		}
		type way struct {
			f     impl.Fabric
			lines []string
		}
		seen, ends := map[string]bool{valueOf(b.f): true}, 0
		for ways := []way{{b.f, given}}; len(ways) > 0; ways = ways[1:] {
			w := ways[0]
			for i := range len(impl.Enabled(w.f)) {
				f, _ := impl.Picked(w.f, int64(i))
				if value := valueOf(f); !seen[value] {
					seen[value] = true
					ways = append(ways, way{f, append(slices.Clone(w.lines), fmt.Sprintf("pick %d", i))})
				}
			}
			if len(impl.Enabled(w.f)) > 0 {
				continue
			}
			ends++
			checkSum(t, append(w.lines, "told 0", "told 1", "line 3", "ok"))
		}
		if len(seen) < 30 || ends < 2 {
			t.Errorf("only %d fabrics came of %q, and %d ends", len(seen), given, ends)
		}
	}
}

// checkSum looks at the last four answers.
func checkSum(t *testing.T, lines []string) {
	t.Helper()
	text := endedLines(lines...)
	checkSame(t, text)
	answers := linesOfText(impl.Bench(text))
	last := answers[len(answers)-4:]
	if said := last[0] + ", " + last[1]; said != "0, 3" && said != "4, 0" {
		t.Errorf("by %q they were told %s", lines, said)
	}
	if !strings.HasSuffix(last[2], " 7 0") || last[3] != "yyyyy" {
		t.Errorf("by %q it is %q", lines, last)
	}
}

// The same of many adds, in whatever order the seed picks.
func TestBenchTwoCoresAddBySeeds(t *testing.T) {
	for _, r := range []struct {
		count, one, other int
		sum               string
	}{{1, 3, 4, "7"}, {5, 1, 10, "55"}, {12, 9999, 9998, "9964"}, {30, 1, 100, "3030"}} {
		var given []string
		for range r.count {
			given = append(given, fmt.Sprintf("add 0 5 %d", r.one), fmt.Sprintf("add 1 5 %d", r.other))
		}
		firsts := map[bool]int{}
		for seed := 0; seed <= 65535; seed += 1285 {
			// By the seed alone it is core 0 that comes first.
			past := [][]string{{}, {"pick 1", "pick 1"}, {"pick 1", "pick 0", "pick 0"}}[seed%3]
			text := endedLines(slices.Concat(given, past, []string{fmt.Sprintf("end %d", seed), "told 0", "line 2", "ok", "events"})...)
			answers := linesOfText(impl.Bench(text))
			last := answers[len(answers)-4:]
			firsts[strings.HasPrefix(last[0]+" ", "0 ")]++
			if !strings.HasSuffix(last[1], " 0 "+r.sum) || last[2] != "yyyyy" || last[3] != fmt.Sprint(2*r.count) {
				t.Errorf("Bench(%q) ends with %q", text, last)
			}
		}
		if firsts[true] < 5 || firsts[false] < 5 {
			t.Errorf("core 0 was first or not: %v", firsts)
		}
	}
}
