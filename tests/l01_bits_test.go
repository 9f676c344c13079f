package tests

import (
	"math"
	"slices"
	"testing"

	"loop.example/g00342/impl"
)

const noSet = int64(-1)

var wrongSets = []int64{math.MinInt64, math.MinInt64 + 1, -256, -2, -1, 256, 257, 511, 512, math.MaxInt64 - 1, math.MaxInt64}

var wrongNumbers = []int64{math.MinInt64, math.MinInt64 + 1, -64, -8, -2, -1, 8, 9, 62, 63, 64, 65, 256, math.MaxInt64}

// bitsOf tells by division alone which numbers are in a set, so that it shares no rule with the program.
func bitsOf(set int64) [8]bool {
	var bits [8]bool
	for i := range bits {
		bits[i] = set%2 == 1
		set /= 2
	}
	return bits
}

func setOf(bits [8]bool) int64 {
	set, worth := int64(0), int64(1)
	for _, bit := range bits {
		if bit {
			set += worth
		}
		worth *= 2
	}
	return set
}

func numbersOf(bits [8]bool) []int64 {
	var list []int64
	for i, bit := range bits {
		if bit {
			list = append(list, int64(i))
		}
	}
	return list
}

func TestBitsOfEverySet(t *testing.T) {
	for set := int64(0); set <= 255; set++ {
		bits := bitsOf(set)
		list := numbersOf(bits)
		if got := impl.Members(set); !slices.Equal(got, list) {
			t.Errorf("Members(%d) = %v, want %v", set, got, list)
		}
		if got := impl.Count(set); got != int64(len(list)) {
			t.Errorf("Count(%d) = %d, want %d", set, got, len(list))
		}
		for i, bit := range bits {
			checkNumber(t, set, int64(i), bit)
		}
	}
}

func checkNumber(t *testing.T, set int64, i int64, in bool) {
	t.Helper()
	if got := impl.In(set, i); got != in {
		t.Errorf("In(%d, %d) = %v, want %v", set, i, got, in)
	}
	bits := bitsOf(set)
	bits[i] = true
	if got, want := impl.With(set, i), setOf(bits); got != want {
		t.Errorf("With(%d, %d) = %d, want %d", set, i, got, want)
	}
	bits[i] = false
	if got, want := impl.Without(set, i), setOf(bits); got != want {
		t.Errorf("Without(%d, %d) = %d, want %d", set, i, got, want)
	}
}

// Promise 1, told by the program's own functions alone, of sets and of what is none.
func TestBitsMembersAreThoseThatAreIn(t *testing.T) {
	for set := int64(-3); set <= 258; set++ {
		var in []int64
		for i := int64(-3); i <= 10; i++ {
			if impl.In(set, i) {
				in = append(in, i)
			}
		}
		if got := impl.Members(set); !slices.Equal(got, in) {
			t.Errorf("Members(%d) = %v, but In are %v", set, got, in)
		}
		want := int64(len(in))
		if set < 0 || set > 255 {
			want = noSet
		}
		if got := impl.Count(set); got != want {
			t.Errorf("Count(%d) = %d, want %d", set, got, want)
		}
	}
}

func TestBitsEdges(t *testing.T) {
	if got := impl.Members(0); len(got) != 0 || impl.Count(0) != 0 {
		t.Errorf("of set 0: Members %v, Count %d", got, impl.Count(0))
	}
	if got := impl.Members(255); !slices.Equal(got, []int64{0, 1, 2, 3, 4, 5, 6, 7}) || impl.Count(255) != 8 {
		t.Errorf("of set 255: Members %v, Count %d", got, impl.Count(255))
	}
	rows := []struct {
		name      string
		got, want int64
	}{
		{"With(0, 0)", impl.With(0, 0), 1},
		{"With(0, 7)", impl.With(0, 7), 128},
		{"With(0, -1)", impl.With(0, -1), 0},
		{"With(0, 8)", impl.With(0, 8), 0},
		{"With(255, 0)", impl.With(255, 0), 255},
		{"With(255, 7)", impl.With(255, 7), 255},
		{"With(-1, 0)", impl.With(-1, 0), noSet},
		{"With(256, 0)", impl.With(256, 0), noSet},
		{"Without(0, 0)", impl.Without(0, 0), 0},
		{"Without(255, 0)", impl.Without(255, 0), 254},
		{"Without(255, 7)", impl.Without(255, 7), 127},
		{"Without(255, -1)", impl.Without(255, -1), 255},
		{"Without(255, 8)", impl.Without(255, 8), 255},
		{"Without(-1, 7)", impl.Without(-1, 7), noSet},
		{"Without(256, 7)", impl.Without(256, 7), noSet},
		{"Count(-1)", impl.Count(-1), noSet},
		{"Count(256)", impl.Count(256), noSet},
	}
	for _, r := range rows {
		if r.got != r.want {
			t.Errorf("%s = %d, want %d", r.name, r.got, r.want)
		}
	}
}

func TestBitsOfNoSet(t *testing.T) {
	numbers := append([]int64{0, 1, 2, 3, 4, 5, 6, 7}, wrongNumbers...)
	for _, set := range wrongSets {
		if got := impl.Count(set); got != noSet {
			t.Errorf("Count(%d) = %d, want -1", set, got)
		}
		if got := impl.Members(set); len(got) != 0 {
			t.Errorf("Members(%d) = %v, want nothing", set, got)
		}
		for _, i := range numbers {
			if impl.In(set, i) {
				t.Errorf("In(%d, %d) of no set", set, i)
			}
			if got := impl.With(set, i); got != noSet {
				t.Errorf("With(%d, %d) = %d, want -1", set, i, got)
			}
			if got := impl.Without(set, i); got != noSet {
				t.Errorf("Without(%d, %d) = %d, want -1", set, i, got)
			}
		}
	}
}

func TestBitsOfNoNumber(t *testing.T) {
	for set := int64(0); set <= 255; set++ {
		for _, i := range wrongNumbers {
			if impl.In(set, i) {
				t.Errorf("In(%d, %d) of no number", set, i)
			}
			if got := impl.With(set, i); got != set {
				t.Errorf("With(%d, %d) = %d, want it as it is", set, i, got)
			}
			if got := impl.Without(set, i); got != set {
				t.Errorf("Without(%d, %d) = %d, want it as it is", set, i, got)
			}
		}
	}
}

func TestBitsMembersAreNewMemory(t *testing.T) {
	for _, set := range []int64{0, 1, 170, 255, noSet, 256} {
		want := slices.Clone(impl.Members(set))
		first, second := impl.Members(set), impl.Members(set)
		spoil(first)
		if !slices.Equal(second, want) {
			t.Errorf("Members(%d): two answers share memory", set)
		}
		if got := impl.Members(set); !slices.Equal(got, want) {
			t.Errorf("Members(%d) = %v after another answer was written into, want %v", set, got, want)
		}
	}
}

// spoil writes into a list and into the spare room behind it.
func spoil(list []int64) {
	list = list[:cap(list)]
	for i := range list {
		list[i] = 99
	}
}
