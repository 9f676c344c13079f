package impl

const (
	maxSet    = 255
	maxNumber = 7
)

type bitSet int64

func (s bitSet) ok() bool { return s >= 0 && s <= maxSet }

func (s bitSet) has(i int64) bool { return s.ok() && numberOk(i) && s&bitOf(i) != 0 }

func (s bitSet) with(i int64) bitSet { return s | bitOf(i) }

func (s bitSet) without(i int64) bitSet { return s &^ bitOf(i) }

func numberOk(i int64) bool { return i >= 0 && i <= maxNumber }

// Only for numbers that are numberOk: a shift by less than 0 would panic.
func bitOf(i int64) bitSet { return 1 << i }

// No set is asked for ahead of the number: of no set there is nothing that could stay as it is.
func changed(set int64, i int64, change func(bitSet, int64) bitSet) int64 {
	s := bitSet(set)
	if !s.ok() {
		return -1
	}
	if !numberOk(i) {
		return set
	}
	return int64(change(s, i))
}

func chosen(has func(int64) bool) []int64 {
	list := []int64{}
	for i := int64(0); i <= maxNumber; i++ {
		if has(i) {
			list = append(list, i)
		}
	}
	return list
}

func In(set int64, i int64) bool { return bitSet(set).has(i) }

func With(set int64, i int64) int64 { return changed(set, i, bitSet.with) }

func Without(set int64, i int64) int64 { return changed(set, i, bitSet.without) }

func Count(set int64) int64 {
	if !bitSet(set).ok() {
		return -1
	}
	return int64(len(Members(set)))
}

func Members(set int64) []int64 { return chosen(bitSet(set).has) }
