package tests

import (
	"fmt"
	"math"
	"slices"
	"strings"
	"testing"

	"loop.example/g00342/impl"
)

// noPlaces are beside the numbers of whatever net there may be.
var noPlaces = []int64{math.MinInt64, math.MinInt64 + 1, math.MinInt64 / 2, -1 << 32, -61, -60, -2, -1, 60, 61, 62, 255, 256, 1 << 32, 1<<32 + 1, math.MaxInt64 / 2, math.MaxInt64 - 1, math.MaxInt64}

// plain is a right letter on this Road, from and to these.
func plain(road int64, from int64, to int64) impl.Msg {
	return impl.Msg{Road: road, From: from, To: to, Kind: 7, Line: 3, Data: []int64{11, 12}, Flag: 2}
}

// stamped is a letter that no other one of its net is like, whose number n is told by its Data and by its other fields.
func stamped(road int64, from int64, to int64, n int64) impl.Msg {
	m := impl.Msg{Road: road, From: from, To: to, Kind: 1 + n%15, Line: n % 16, Flag: n / 16 % 16}
	if n%3 != 2 {
		m.Data = []int64{n, 9999 - n}
	}
	return m
}

func sameLetter(a impl.Msg, b impl.Msg) bool {
	return a.Road == b.Road && a.From == b.From && a.To == b.To && a.Kind == b.Kind && a.Line == b.Line && a.Flag == b.Flag && slices.Equal(a.Data, b.Data)
}

func sameNet(a []impl.Msg, b []impl.Msg) bool { return slices.EqualFunc(a, b, sameLetter) }

func letterCopy(m impl.Msg) impl.Msg {
	m.Data = slices.Clone(m.Data)
	return m
}

// netCopy shares nothing with the net; it is without spare room.
func netCopy(net []impl.Msg) []impl.Msg {
	var fresh []impl.Msg
	for _, m := range net {
		fresh = append(fresh, letterCopy(m))
	}
	return fresh
}

func roomyLetter(m impl.Msg) impl.Msg {
	m.Data = roomy(m.Data)
	return m
}

// roomyNet gives a copy with spare room behind each list of it; in that of the net stand a right letter and a wrong one.
func roomyNet(net []impl.Msg) []impl.Msg {
	var wide []impl.Msg
	for _, m := range net {
		wide = append(wide, roomyLetter(m))
	}
	wide = append(wide, plain(0, 1, 4), impl.Msg{Road: 9, Data: []int64{1}})
	return wide[:len(net)]
}

// pictureOfNet tells all of a net, with the spare room behind each list and where each list stands.
func pictureOfNet(net []impl.Msg) string {
	var told strings.Builder
	fmt.Fprintf(&told, "%p", net)
	for _, m := range net[:cap(net)] {
		told.WriteString(pictureOfLetter(m))
	}
	return told.String()
}

func pictureOfLetter(m impl.Msg) string {
	return fmt.Sprintf(" [%d %d %d %d %d %d %p %v]", m.Road, m.From, m.To, m.Kind, m.Line, m.Flag, m.Data, m.Data[:cap(m.Data)])
}

// without gives a copy of the net without this number.
func without(net []impl.Msg, k int) []impl.Msg {
	fresh := netCopy(net)
	return slices.Delete(fresh, k, k+1)
}

// with gives a copy of the net in which this number is that letter.
func with(net []impl.Msg, k int, m impl.Msg) []impl.Msg {
	fresh := netCopy(net)
	fresh[k] = letterCopy(m)
	return fresh
}

func checkNetOk(t *testing.T, net []impl.Msg, want bool) {
	t.Helper()
	given := roomyNet(net)
	was := pictureOfNet(given)
	if got := impl.NetOk(given); got != want {
		t.Errorf("NetOk(%v) = %v", net, got)
	}
	if pictureOfNet(given) != was {
		t.Errorf("NetOk(%v) wrote into its argument", net)
	}
}

func checkSent(t *testing.T, net []impl.Msg, m impl.Msg, want []impl.Msg, is bool) {
	t.Helper()
	given, letter := roomyNet(net), roomyLetter(m)
	was, wasLetter := pictureOfNet(given), pictureOfLetter(letter)
	got, done := impl.Sent(given, letter)
	if !sameNet(got, want) || done != is {
		t.Errorf("Sent(%v, %v) = %v, %v, want %v, %v", net, m, got, done, want, is)
	}
	if pictureOfNet(given) != was || pictureOfLetter(letter) != wasLetter {
		t.Errorf("Sent(%v, %v) wrote into an argument", net, m)
	}
}

func checkFirst(t *testing.T, net []impl.Msg, k int64, want bool) {
	t.Helper()
	given := roomyNet(net)
	was := pictureOfNet(given)
	if got := impl.First(given, k); got != want {
		t.Errorf("First(%v, %d) = %v", net, k, got)
	}
	if pictureOfNet(given) != was {
		t.Errorf("First(%v, %d) wrote into its argument", net, k)
	}
}

func checkTaken(t *testing.T, net []impl.Msg, k int64, want []impl.Msg, letter impl.Msg, is bool) {
	t.Helper()
	given := roomyNet(net)
	was := pictureOfNet(given)
	got, m, done := impl.Taken(given, k)
	if !sameNet(got, want) || !sameLetter(m, letter) || done != is {
		t.Errorf("Taken(%v, %d) = %v, %v, %v, want %v, %v, %v", net, k, got, m, done, want, letter, is)
	}
	if pictureOfNet(given) != was {
		t.Errorf("Taken(%v, %d) wrote into its argument", net, k)
	}
}

// checkRefusedLetter: the net stays as it is.
func checkRefusedLetter(t *testing.T, net []impl.Msg, m impl.Msg) {
	t.Helper()
	checkSent(t, net, m, net, false)
}

// checkNotFirst: nothing is taken.
func checkNotFirst(t *testing.T, net []impl.Msg, k int64) {
	t.Helper()
	checkFirst(t, net, k, false)
	checkTaken(t, net, k, net, impl.Msg{}, false)
}

// checkIsFirst: just this one is taken.
func checkIsFirst(t *testing.T, net []impl.Msg, k int64) {
	t.Helper()
	checkFirst(t, net, k, true)
	checkTaken(t, net, k, without(net, int(k)), net[k], true)
}

// checkNoNet asks all that is asked of a net, of right and of wrong things beside it.
func checkNoNet(t *testing.T, net []impl.Msg) {
	t.Helper()
	checkNetOk(t, net, false)
	for _, k := range append([]int64{0, 1, 2, int64(len(net)) - 1, int64(len(net)), int64(len(net)) + 1}, noPlaces...) {
		checkFirst(t, net, k, false)
		checkTaken(t, net, k, nil, impl.Msg{}, false)
	}
	for _, m := range []impl.Msg{plain(0, 0, 0), plain(2, 5, 5), plain(3, 0, 0), plain(0, -1, 0), {}, {Kind: 1, Data: []int64{1}}} {
		checkSent(t, net, m, nil, false)
	}
}

// mixedNet has this many letters of several Roads, Froms and Tos, none like another; some are of one route.
func mixedNet(count int) []impl.Msg {
	var net []impl.Msg
	for i := range int64(count) {
		net = append(net, stamped(i%3, i*7%6, i*5/4%6, i))
	}
	return net
}

// oneRoute has this many letters, all of one route, none like another.
func oneRoute(count int) []impl.Msg {
	var net []impl.Msg
	for i := range int64(count) {
		net = append(net, stamped(1, 2, 4, i))
	}
	return net
}

// allRoutes has as many letters as there may be, no two of one route.
func allRoutes() []impl.Msg {
	var net []impl.Msg
	for n := range int64(60) {
		net = append(net, stamped(n/36, n/6%6, n%6, n))
	}
	return net
}

// letterField is a field of a letter: its ends, and how it is set.
type letterField struct {
	name        string
	least, most int64
	set         func(m *impl.Msg, n int64)
}

// fieldsOfLetter is written out from the chapter.
func fieldsOfLetter() []letterField {
	return []letterField{
		{"Road", 0, 2, func(m *impl.Msg, n int64) { m.Road = n }},
		{"From", 0, 5, func(m *impl.Msg, n int64) { m.From = n }},
		{"To", 0, 5, func(m *impl.Msg, n int64) { m.To = n }},
		{"Kind", 1, 15, func(m *impl.Msg, n int64) { m.Kind = n }},
		{"Line", 0, 15, func(m *impl.Msg, n int64) { m.Line = n }},
		{"Flag", 0, 15, func(m *impl.Msg, n int64) { m.Flag = n }},
	}
}

var farFields = []int64{math.MinInt64, math.MinInt64 + 1, math.MinInt64 / 2, -1 << 32, -256, -16, -15, -6, -2, -1, 16, 17, 30, 255, 256, 257, 1 << 32, 1<<32 + 1, math.MaxInt64 / 2, math.MaxInt64 - 1, math.MaxInt64}

// wrongLetters gives such as have one field that is wrong, or Data that is neither a line nor empty.
func wrongLetters(yield func(impl.Msg) bool) {
	for _, f := range fieldsOfLetter() {
		for _, n := range append([]int64{f.least - 1, f.most + 1}, farFields...) {
			for _, data := range [][]int64{nil, {3, 4}} {
				m := plain(1, 2, 4)
				m.Data = data
				f.set(&m, n)
				if !yield(m) {
					return
				}
			}
		}
	}
	for bad := range noLines {
		m := plain(1, 2, 4)
		m.Data = bad
		if len(bad) > 0 && !yield(m) {
			return
		}
	}
	yield(impl.Msg{})
}

func TestNetEachFieldOfALetter(t *testing.T) {
	if impl.MaxNet != 60 {
		t.Fatal("MaxNet is another number")
	}
	for _, f := range fieldsOfLetter() {
		for n := f.least - 4; n <= f.most+4; n++ {
			m := plain(1, 2, 4)
			f.set(&m, n)
			right := n >= f.least && n <= f.most
			checkNetOk(t, []impl.Msg{m}, right)
			if !right {
				checkNoNet(t, []impl.Msg{m})
				checkRefusedLetter(t, nil, m)
				continue
			}
			checkSent(t, nil, m, []impl.Msg{m}, true)
			checkIsFirst(t, []impl.Msg{m}, 0)
		}
	}
}

// Each field at both of its ends, with all others at both of theirs.
func TestNetFieldsAtTheirEnds(t *testing.T) {
	fields := fieldsOfLetter()
	for choice := range 1 << len(fields) {
		var m impl.Msg
		for i, f := range fields {
			n := f.least
			if choice>>i&1 == 1 {
				n = f.most
			}
			f.set(&m, n)
		}
		for _, data := range [][]int64{nil, {}, {0, 0}, {9999, 9999}} {
			m.Data = data
			checkSent(t, nil, m, []impl.Msg{m}, true)
			checkIsFirst(t, []impl.Msg{m}, 0)
			checkSent(t, oneRoute(3), m, append(oneRoute(3), m), true)
			checkNetOk(t, []impl.Msg{m, m}, true)
		}
	}
}

func TestNetDataIsALineOrEmpty(t *testing.T) {
	m := plain(0, 1, 4)
	for l := range someLines {
		m.Data = l
		checkSent(t, nil, m, []impl.Msg{m}, true)
		checkIsFirst(t, []impl.Msg{m}, 0)
	}
	for bad := range noLines {
		m.Data = bad
		if len(bad) == 0 {
			checkSent(t, nil, m, []impl.Msg{m}, true)
			checkIsFirst(t, []impl.Msg{m}, 0)
			continue
		}
		checkRefusedLetter(t, nil, m)
		checkRefusedLetter(t, mixedNet(5), m)
		checkNoNet(t, []impl.Msg{m})
	}
}

func TestNetOfEachLength(t *testing.T) {
	for count := range 66 {
		m := stamped(2, 5, 0, 100)
		for _, net := range [][]impl.Msg{mixedNet(count), oneRoute(count)} {
			if count > 60 {
				checkNoNet(t, net)
				continue
			}
			checkNetOk(t, net, true)
			if count == 60 {
				checkRefusedLetter(t, net, m)
				continue
			}
			checkSent(t, net, m, append(netCopy(net), m), true)
		}
	}
	checkNoNet(t, mixedNet(1000))
	checkNoNet(t, make([]impl.Msg, 61))
	checkNoNet(t, make([]impl.Msg, 1))
	if impl.NetOk(make([]impl.Msg, 100000)) {
		t.Errorf("100000 letters are a net")
	}
}

func TestNetOfNoLetter(t *testing.T) {
	for _, net := range [][]impl.Msg{nil, {}, make([]impl.Msg, 0, 60)} {
		checkNetOk(t, net, true)
		for _, k := range append([]int64{0, 1, 2, 59}, noPlaces...) {
			checkNotFirst(t, net, k)
		}
		checkSent(t, net, plain(0, 0, 0), []impl.Msg{plain(0, 0, 0)}, true)
	}
	if !impl.NetOk(nil) || impl.First(nil, 0) {
		t.Errorf("of no letter: NetOk is %v, First is %v", impl.NetOk(nil), impl.First(nil, 0))
	}
	if got, m, is := impl.Taken(nil, 0); len(got) != 0 || !sameLetter(m, impl.Msg{}) || is {
		t.Errorf("Taken of no letter = %v, %v, %v", got, m, is)
	}
}

// The room for one more is used, and no more: of 58, 59 and 60, one after the other.
func TestNetIsFilledToItsEnd(t *testing.T) {
	var net []impl.Msg
	for n := range int64(64) {
		m := stamped(n%3, n%6, n/6%6, n)
		got, is := impl.Sent(net, m)
		if is != (n < 60) {
			t.Fatalf("letter %d is sent: %v", n, is)
		}
		want := netCopy(net)
		if is {
			want = append(want, m)
		}
		if !sameNet(got, want) {
			t.Fatalf("letter %d is sent: %v, want %v", n, got, want)
		}
		net = got
	}
	got, _, is := impl.Taken(net, 0)
	if !is || len(got) != 59 {
		t.Fatalf("of 60 letters one is taken: %d, %v", len(got), is)
	}
	checkSent(t, got, stamped(0, 0, 0, 70), append(netCopy(got), stamped(0, 0, 0, 70)), true)
}

func TestNetWithOneWrongLetter(t *testing.T) {
	for _, count := range []int{1, 2, 3, 59, 60} {
		net := mixedNet(count)
		for _, k := range []int{0, count / 2, count - 1} {
			for bad := range wrongLetters {
				checkNetOk(t, with(net, k, bad), false)
			}
			for _, bad := range []impl.Msg{{}, plain(3, 0, 0), plain(0, -1, 0), plain(0, 0, 6), {Kind: 16}, {Kind: 1, Line: 16}, {Kind: 1, Flag: 16}, {Kind: 1, Data: []int64{1}}, {Kind: 1, Data: []int64{1, 10000}}} {
				checkNoNet(t, with(net, k, bad))
			}
		}
	}
}

// A wrong letter is refused, whatever room there is; and of no net there is nothing.
func TestNetWrongLetterIsSent(t *testing.T) {
	for bad := range wrongLetters {
		for _, net := range [][]impl.Msg{nil, oneRoute(1), mixedNet(7), mixedNet(59), mixedNet(60)} {
			checkRefusedLetter(t, net, bad)
		}
		checkSent(t, mixedNet(61), bad, nil, false)
		checkSent(t, with(mixedNet(7), 3, impl.Msg{}), bad, nil, false)
		checkSent(t, []impl.Msg{bad}, bad, nil, false)
	}
}

func TestNetOrdinary(t *testing.T) {
	net := []impl.Msg{
		{Road: 0, From: 0, To: 4, Kind: 1, Line: 2},
		{Road: 0, From: 1, To: 4, Kind: 2, Line: 2},
		{Road: 0, From: 0, To: 4, Kind: 3, Line: 5, Data: []int64{8, 9}, Flag: 1},
		{Road: 1, From: 4, To: 0, Kind: 6, Line: 2},
		{Road: 1, From: 4, To: 1, Kind: 7, Line: 2},
		{Road: 2, From: 0, To: 4, Kind: 9, Line: 2, Flag: 1},
		{Road: 2, From: 4, To: 0, Kind: 11, Line: 2, Data: []int64{0, 0}, Flag: 3},
		{Road: 1, From: 4, To: 0, Kind: 7, Line: 9},
		{Road: 0, From: 0, To: 4, Kind: 1, Line: 7},
		{Road: 0, From: 5, To: 4, Kind: 4, Line: 1},
	}
	first := []bool{true, true, false, true, true, true, true, false, false, true}
	checkNetOk(t, net, true)
	for k, is := range first {
		if is {
			checkIsFirst(t, net, int64(k))
			continue
		}
		checkNotFirst(t, net, int64(k))
	}
	// When the first one is gone, the next one of its route is first, and the third is not yet.
	rest := without(net, 0)
	checkIsFirst(t, rest, 1)
	checkNotFirst(t, rest, 7)
	checkIsFirst(t, without(rest, 1), 6)
	// One that goes the other way round, or has only some of the three alike, is no hindrance.
	near := []impl.Msg{plain(1, 2, 3), plain(1, 3, 2), plain(0, 2, 3), plain(1, 2, 2), plain(1, 3, 3), plain(2, 2, 3), plain(1, 2, 3)}
	for k := range int64(6) {
		checkIsFirst(t, near, k)
	}
	checkNotFirst(t, near, 6)
}

// Each route beside each other one: only where they are one, the second letter waits.
func TestNetOfEachTwoRoutes(t *testing.T) {
	var all []impl.Msg
	for n := range int64(108) {
		all = append(all, plain(n/36, n/6%6, n%6))
	}
	for i, a := range all {
		for j, b := range all {
			net := []impl.Msg{a, b}
			if !impl.First(net, 0) {
				t.Fatalf("First(%v, 0) is false", net)
			}
			if got := impl.First(net, 1); got != (i != j) {
				t.Fatalf("First(%v, 1) = %v", net, got)
			}
			rest, m, is := impl.Taken(net, 1)
			if i != j && (!is || !sameNet(rest, net[:1]) || !sameLetter(m, b)) || i == j && (is || !sameNet(rest, net) || !sameLetter(m, impl.Msg{})) {
				t.Fatalf("Taken(%v, 1) = %v, %v, %v", net, rest, m, is)
			}
		}
	}
}

// What a letter says, and that it is like another one, makes no difference to its order.
func TestNetOrderHangsOnTheRouteAlone(t *testing.T) {
	low := impl.Msg{Road: 1, From: 2, To: 4, Kind: 1, Line: 0, Flag: 0}
	high := impl.Msg{Road: 1, From: 2, To: 4, Kind: 15, Line: 15, Data: []int64{9999, 9999}, Flag: 15}
	for _, net := range [][]impl.Msg{{low, high}, {high, low}, {low, low}, {high, high}, {high, low, high, low}} {
		checkIsFirst(t, net, 0)
		for k := 1; k < len(net); k++ {
			checkNotFirst(t, net, int64(k))
		}
	}
}

func TestNetFirstAndLastNumbers(t *testing.T) {
	for _, count := range []int{1, 2, 3, 30, 59, 60} {
		same, unlike := oneRoute(count), allRoutes()[:count]
		last := int64(count) - 1
		checkIsFirst(t, same, 0)
		checkIsFirst(t, unlike, 0)
		checkIsFirst(t, unlike, last)
		if last > 0 {
			checkNotFirst(t, same, last)
			checkNotFirst(t, same, 1)
		}
		for _, k := range append([]int64{last + 1, last + 2}, noPlaces...) {
			checkNotFirst(t, same, k)
			checkNotFirst(t, unlike, k)
		}
	}
}

// Of all letters on routes of their own each one can be taken, and none of the others moves.
func TestNetOfAllRoutes(t *testing.T) {
	net := allRoutes()
	for k := range int64(60) {
		checkIsFirst(t, net, k)
	}
	same := oneRoute(60)
	checkIsFirst(t, same, 0)
	for k := int64(1); k < 60; k++ {
		checkNotFirst(t, same, k)
	}
}

// ahead tells by looking at each letter ahead whether one is of the same route.
func ahead(net []impl.Msg, k int) bool {
	for _, m := range net[:k] {
		if m.Road == net[k].Road && m.From == net[k].From && m.To == net[k].To {
			return true
		}
	}
	return false
}

// All nets of up to 5 letters on 4 routes that are near to each other, and each number of them.
func TestNetOfAllSmallNets(t *testing.T) {
	routes := []impl.Msg{plain(0, 1, 4), plain(1, 1, 4), plain(0, 4, 1), plain(0, 1, 5)}
	count := 0
	for length := range 6 {
		kinds := 1 << (2 * length)
		for kind := range kinds {
			var net []impl.Msg
			for i := range length {
				r := routes[kind>>(2*i)&3]
				net = append(net, stamped(r.Road, r.From, r.To, int64(i)))
			}
			for k := range net {
				count++
				if ahead(net, k) {
					checkNotFirst(t, net, int64(k))
					continue
				}
				checkIsFirst(t, net, int64(k))
			}
		}
	}
	if count != 4+2*16+3*64+4*256+5*1024 {
		t.Fatalf("looked at %d letters", count)
	}
}

// mailRoute is of what letters must come in order.
type mailRoute struct{ road, from, to int64 }

func mailRouteOf(m impl.Msg) mailRoute { return mailRoute{m.Road, m.From, m.To} }

// queues is what should come: of each route the letters that were sent and not yet taken.
type queues map[mailRoute][]impl.Msg

func (q queues) send(m impl.Msg) { q[mailRouteOf(m)] = append(q[mailRouteOf(m)], m) }

func (q queues) count() int {
	count := 0
	for _, list := range q {
		count += len(list)
	}
	return count
}

// firsts tells which numbers of the net the queues have at their head.
func (q queues) firsts(net []impl.Msg) []int64 {
	list := []int64{}
	for k, m := range net {
		if head := q[mailRouteOf(m)]; len(head) > 0 && sameLetter(head[0], m) {
			list = append(list, int64(k))
		}
	}
	return list
}

// takeOne takes this number, and holds what comes against the head of its queue.
func (q queues) takeOne(t *testing.T, net []impl.Msg, k int64) []impl.Msg {
	t.Helper()
	rest, m, is := impl.Taken(net, k)
	r := mailRouteOf(net[k])
	if !is || !sameLetter(m, q[r][0]) || !sameNet(rest, without(net, int(k))) {
		t.Fatalf("Taken(%v, %d) = %v, %v, %v, want %v", net, k, rest, m, is, q[r][0])
	}
	q[r] = q[r][1:]
	return rest
}

// Promise 7 in all orders: of each net of 4 letters on up to 3 routes, each one that can be taken is, on and on till none is left.
func TestNetAllOrdersOfTaking(t *testing.T) {
	ways := 0
	for kind := range 81 {
		var net []impl.Msg
		q := queues{}
		for i := range int64(4) {
			m := stamped(0, int64(kind%3), 4, i)
			net = append(net, m)
			q.send(m)
			kind /= 3
		}
		ways += takeAllWays(t, net, q)
	}
	// Of 4 letters there are 24 orders, less where several are of one route: 3 kinds with 1, 24 with 4, 18 with 6, 36 with 12.
	if ways != 3+24*4+18*6+36*12 {
		t.Fatalf("there were %d orders", ways)
	}
}

func takeAllWays(t *testing.T, net []impl.Msg, q queues) int {
	t.Helper()
	if len(net) == 0 {
		if q.count() != 0 {
			t.Fatalf("none is left, and yet there are %v", q)
		}
		return 1
	}
	ways := 0
	for k := range int64(len(net)) {
		if !slices.Contains(q.firsts(net), k) {
			checkNotFirst(t, net, k)
			continue
		}
		left := queues{}
		for r, list := range q {
			left[r] = list
		}
		ways += takeAllWays(t, left.takeOne(t, net, k), left)
	}
	return ways
}

// Long walks: letters of many routes are sent and taken in a mixed order; behind each step all that can be taken are asked.
func TestNetLongWalks(t *testing.T) {
	for seed := range int64(12) {
		var net []impl.Msg
		q := queues{}
		n, sent := seed, int64(0)
		spread := 1 + seed%6
		for step := range 700 {
			n = (25173*n + 13849) % 65536
			if firsts := q.firsts(net); len(firsts) > 0 && (n/256%5 < 2 || len(net) == 60 && step%2 == 0) {
				net = q.takeOne(t, net, firsts[n/16%int64(len(firsts))])
			} else {
				m := stamped(n/32%3, n/128%spread, n/1024%spread, sent%256)
				got, is := impl.Sent(net, m)
				if is != (len(net) < 60) {
					t.Fatalf("a letter is sent to %d others: %v", len(net), is)
				}
				if is {
					q.send(m)
					sent++
				}
				net = got
			}
			checkQueues(t, net, q)
		}
		for step := 0; len(net) > 0 && step < 60; step++ {
			firsts := q.firsts(net)
			net = q.takeOne(t, net, firsts[step%len(firsts)])
			checkQueues(t, net, q)
		}
		if len(net) != 0 || q.count() != 0 || sent < 200 {
			t.Fatalf("in the end there are %d letters, of %d that were sent", len(net), sent)
		}
	}
}

// checkQueues: the letters of each route stand in the net as in its queue, and just the heads are First.
func checkQueues(t *testing.T, net []impl.Msg, q queues) {
	t.Helper()
	if !impl.NetOk(net) || len(net) != q.count() {
		t.Fatalf("of %d letters there are %v", q.count(), net)
	}
	there := queues{}
	for _, m := range net {
		there.send(m)
	}
	for r, list := range q {
		if !sameNet(there[r], list) {
			t.Fatalf("on %v there are %v, want %v", r, there[r], list)
		}
	}
	firsts := q.firsts(net)
	for k := range int64(len(net)) {
		if got := impl.First(net, k); got != slices.Contains(firsts, k) {
			t.Fatalf("First(%v, %d) = %v", net, k, got)
		}
	}
}

// Promise 7, by the program's own functions alone: whatever that is First is taken, on and on; of one route the numbers that the letters were given rise, and each comes once.
func TestNetLettersComeInTheirOrderEachOnce(t *testing.T) {
	for pick := range int64(40) {
		var net []impl.Msg
		for n := range int64(60) {
			is := false
			if net, is = impl.Sent(net, impl.Msg{Road: n * 7 % 3, From: n * (1 + pick%5) / 4 % 3, To: n / 7 % 2, Kind: 1, Data: []int64{n, 0}}); !is {
				t.Fatalf("letter %d is not sent", n)
			}
		}
		last := map[mailRoute]int64{}
		came := map[int64]int{}
		for step := range int64(60) {
			k := (pick*step + step/3) % int64(len(net))
			for tries := 0; !impl.First(net, k) && tries < 60; tries++ {
				checkNothingTaken(t, net, k)
				k = (k + 1) % int64(len(net))
			}
			rest, m, is := impl.Taken(net, k)
			if !is || len(m.Data) != 2 || len(rest) != len(net)-1 {
				t.Fatalf("Taken(%v, %d) = %v, %v, %v", net, k, rest, m, is)
			}
			if before, some := last[mailRouteOf(m)]; some && before >= m.Data[0] {
				t.Fatalf("on %v letter %d comes behind %d", mailRouteOf(m), m.Data[0], before)
			}
			last[mailRouteOf(m)] = m.Data[0]
			came[m.Data[0]]++
			net = rest
		}
		for n := range int64(60) {
			if came[n] != 1 {
				t.Fatalf("letter %d came %d times", n, came[n])
			}
		}
	}
}

func checkNothingTaken(t *testing.T, net []impl.Msg, k int64) {
	t.Helper()
	if rest, m, is := impl.Taken(net, k); is || !sameNet(rest, net) || !sameLetter(m, impl.Msg{}) {
		t.Fatalf("Taken(%v, %d) = %v, %v, %v, though it is not First", net, k, rest, m, is)
	}
}

// spoilNet writes into each list of a net, and into all spare room there is.
func spoilNet(net []impl.Msg) {
	net = net[:cap(net)]
	for i := range net {
		spoil(net[i].Data)
		net[i] = impl.Msg{Road: 99, From: 99, To: 99, Kind: 99, Line: 99, Data: []int64{99}, Flag: 99}
	}
}

// netsOfAllKinds are right ones of several lengths and wrong ones.
func netsOfAllKinds(yield func([]impl.Msg) bool) {
	for _, net := range [][]impl.Msg{nil, oneRoute(1), oneRoute(4), mixedNet(9), mixedNet(59), mixedNet(60), mixedNet(61), with(mixedNet(9), 8, impl.Msg{}), {{Kind: 1, Data: []int64{1}}}} {
		if !yield(net) {
			return
		}
	}
}

// netAnswer is whatever a call answers: a net, and perhaps a letter.
type netAnswer struct {
	net    []impl.Msg
	letter impl.Msg
}

func (a netAnswer) copied() netAnswer { return netAnswer{netCopy(a.net), letterCopy(a.letter)} }

func (a netAnswer) same(b netAnswer) bool {
	return sameNet(a.net, b.net) && sameLetter(a.letter, b.letter)
}

func (a netAnswer) spoil() {
	spoilNet(a.net)
	spoil(a.letter.Data)
}

// checkOwnNet writes into an answer and then into the arguments, and looks each time at the other ones.
func checkOwnNet(t *testing.T, name string, net []impl.Msg, m impl.Msg, ask func(net []impl.Msg, m impl.Msg) netAnswer) {
	t.Helper()
	given, letter := roomyNet(net), roomyLetter(m)
	was, wasLetter := pictureOfNet(given), pictureOfLetter(letter)
	answer := ask(given, letter)
	want := answer.copied()
	answer.spoil()
	if pictureOfNet(given) != was || pictureOfLetter(letter) != wasLetter {
		t.Errorf("%s: an answer that is changed changes an argument", name)
	}
	answer = ask(given, letter)
	ask(given, letter).spoil()
	if !answer.same(want) {
		t.Errorf("%s: two answers share memory", name)
	}
	spoil(letter.Data)
	if !answer.same(want) {
		t.Errorf("%s: a letter that is changed changes an answer", name)
	}
	for i := range given {
		spoil(given[i].Data)
		if !answer.same(want) {
			t.Fatalf("%s: Data %d that is changed changes an answer", name, i)
		}
	}
	spoilNet(given)
	if !answer.same(want) {
		t.Errorf("%s: a net that is changed changes an answer", name)
	}
}

// checkNetApart writes into one list of an answer after the other, with its spare room, and looks at all others.
func checkNetApart(t *testing.T, name string, ask func() netAnswer) {
	t.Helper()
	want := ask().copied()
	for i := range want.net {
		got := ask()
		spoil(got.net[i].Data)
		got.net[i].Data = want.net[i].Data
		if !got.same(want) {
			t.Errorf("%s: Data %d shares memory with another list", name, i)
		}
	}
	got := ask()
	spoil(got.letter.Data)
	got.letter.Data = want.letter.Data
	if !got.same(want) {
		t.Errorf("%s: Data of what is taken shares memory with the net", name)
	}
	got = ask()
	spoilNet(got.net)
	got.net = want.net
	if !got.same(want) {
		t.Errorf("%s: the net shares memory with what is taken", name)
	}
}

func sentAnswer(net []impl.Msg, m impl.Msg) netAnswer {
	got, _ := impl.Sent(net, m)
	return netAnswer{net: got}
}

func takenAnswer(k int64) func(net []impl.Msg, m impl.Msg) netAnswer {
	return func(net []impl.Msg, _ impl.Msg) netAnswer {
		got, m, _ := impl.Taken(net, k)
		return netAnswer{got, m}
	}
}

func TestNetAnswersAreNewMemory(t *testing.T) {
	letters := []impl.Msg{plain(0, 1, 4), {Kind: 1}, {Kind: 1, Data: []int64{}}, {}, plain(3, 0, 0), {Kind: 1, Data: []int64{1}}, {Kind: 1, Data: []int64{1, 10000}}}
	for net := range netsOfAllKinds {
		for _, m := range letters {
			checkOwnNet(t, "Sent", net, m, sentAnswer)
			checkNetApart(t, "Sent", func() netAnswer { return sentAnswer(net, m) })
		}
		for _, k := range []int64{-1, 0, 1, 2, 3, 4, 8, 9, 58, 59, 60, 61} {
			checkOwnNet(t, "Taken", net, impl.Msg{}, takenAnswer(k))
			checkNetApart(t, "Taken", func() netAnswer { return takenAnswer(k)(net, impl.Msg{}) })
		}
	}
}

// A net may come whose Data is one list, which is the letter's Data too: those of the answer are not one.
func TestNetOfSharedData(t *testing.T) {
	data := []int64{5, 6, 7, 8}[:2]
	for _, count := range []int64{1, 2, 5, 59, 60} {
		var net []impl.Msg
		for n := range count {
			m := plain(n%3, n/3%6, n/18)
			m.Data = data
			net = append(net, m)
		}
		checkNetOk(t, net, true)
		checkNetApart(t, "Sent", func() netAnswer { return sentAnswer(net, net[0]) })
		for _, k := range []int64{0, count / 2, count - 1, count} {
			checkNetApart(t, "Taken", func() netAnswer { return takenAnswer(k)(net, impl.Msg{}) })
		}
	}
	if !slices.Equal(data[:4], []int64{5, 6, 7, 8}) {
		t.Errorf("an answer that is changed changes the argument: %v", data[:4])
	}
	// A whole net that is a piece of another one: what is behind it stays.
	long := oneRoute(9)
	was := pictureOfNet(long)
	for cut := range 9 {
		checkNetApart(t, "Sent", func() netAnswer { return sentAnswer(long[:cut], long[8]) })
		checkNetApart(t, "Taken", func() netAnswer { return takenAnswer(0)(long[:cut], impl.Msg{}) })
	}
	if pictureOfNet(long) != was {
		t.Errorf("letters behind a net were written into")
	}
}
