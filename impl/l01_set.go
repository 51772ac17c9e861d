package impl

// setSize is how many blocks a set can tell of, and so how many bits it has.
const setSize = 8

// none is the answer where a set or a block is wanted and there is none.
const none = -1

// A blockSet has block i in it where its bit i is 1.
type blockSet int64

func (s blockSet) ok() bool { return s >= 0 && s < 1<<setSize }

func (s blockSet) has(i int64) bool { return s&oneBlock(i) != 0 }

func (s blockSet) lacks(i int64) bool { return !s.has(i) }

func (s blockSet) with(i int64) blockSet { return s | oneBlock(i) }

func (s blockSet) without(i int64) blockSet { return s &^ oneBlock(i) }

// oneBlock wants an i that is in range: a shift by less than 0 would panic.
func oneBlock(i int64) blockSet { return 1 << i }

func indexOk(i int64) bool { return i >= 0 && i < setSize }

// seek tells the least block from there on that is as wanted, or setSize.
func seek(from int64, wanted func(int64) bool) int64 {
	for i := from; i < setSize; i++ {
		if wanted(i) {
			return i
		}
	}
	return setSize
}

// changed holds what With and Without have in common: which numbers they leave alone.
func changed(set int64, i int64, change func(blockSet, int64) blockSet) int64 {
	s := blockSet(set)
	if !s.ok() {
		return none
	}
	if !indexOk(i) {
		return set
	}
	return int64(change(s, i))
}

func In(set int64, i int64) bool {
	s := blockSet(set)
	return s.ok() && indexOk(i) && s.has(i)
}

func With(set int64, i int64) int64 { return changed(set, i, blockSet.with) }

func Without(set int64, i int64) int64 { return changed(set, i, blockSet.without) }

func First(set int64) int64 {
	s := blockSet(set)
	if !s.ok() {
		return none
	}
	first := seek(0, s.has)
	if first == setSize {
		return none
	}
	return first
}

func Full(n int64) int64 {
	if n < 0 || n > setSize {
		return none
	}
	return int64(oneBlock(n)) - 1
}

func Runs(set int64) []int64 {
	runs := []int64{}
	s := blockSet(set)
	if !s.ok() {
		return runs
	}
	for at := seek(0, s.has); at < setSize; {
		end := seek(at, s.lacks)
		runs = append(runs, at, end-at)
		at = seek(end, s.has)
	}
	return runs
}
