package tests

import (
	"math"
	"slices"
	"testing"

	"loop.example/g00354/impl"
)

var notValues = []int64{-1, -2, -9999, impl.MaxValue + 1, impl.MaxValue + 2, 1 << 31, 1 << 32, 1<<32 + 1, math.MaxInt64, math.MinInt64, math.MinInt64 + 1}

// Lists that are no blocks: too few, too many, and a wrong value at each place.
func notBlocks() [][]int64 {
	lists := [][]int64{nil, {}, make([]int64, 9), make([]int64, 10), make([]int64, 16), make([]int64, 256), make([]int64, 257), make([]int64, 1000)}
	for n := 1; n <= 8; n++ {
		for at := range n {
			for _, value := range notValues {
				list := ramp(n, 5)
				list[at] = value
				lists = append(lists, list)
			}
		}
	}
	return lists
}

// ramp is n blocks of which no two are alike.
func ramp(n int, from int64) []int64 {
	list := make([]int64, n)
	for i := range list {
		list[i] = from + int64(i)
	}
	return list
}

func filled(n int, value int64) []int64 {
	return slices.Repeat([]int64{value}, n)
}

// eachBlocks goes through all blocks of n values out of these.
func eachBlocks(n int, values []int64, see func([]int64)) {
	list := make([]int64, n)
	var from func(int)
	from = func(at int) {
		if at == n {
			see(slices.Clone(list))
			return
		}
		for _, value := range values {
			list[at] = value
			from(at + 1)
		}
	}
	from(0)
}

// sameArgs runs the call on copies that have spare room behind them, and fails if one was written into.
func sameArgs(t *testing.T, name string, lists [][]int64, call func(lists [][]int64)) {
	t.Helper()
	const room = 12
	whole := make([][]int64, len(lists))
	given := make([][]int64, len(lists))
	for k, list := range lists {
		whole[k] = append(slices.Clone(list), ramp(room, 7000)...)
		given[k] = whole[k][:len(list)]
	}
	call(given)
	for k, list := range lists {
		if !slices.Equal(whole[k], append(slices.Clone(list), ramp(room, 7000)...)) {
			t.Errorf("%s%v: argument %d is %v now", name, lists, k, whole[k])
		}
	}
}

// spoil writes over all the memory of an answer, its spare room too.
func spoil(list []int64) {
	list = list[:cap(list)]
	for i := range list {
		list[i] = -77
	}
}

func TestMaxValue(t *testing.T) {
	if impl.MaxValue != 9999 {
		t.Errorf("MaxValue = %d", impl.MaxValue)
	}
}

func TestBlocksOk(t *testing.T) {
	for n := 1; n <= 8; n++ {
		for _, value := range []int64{0, 1, 2, 5000, 9998, 9999} {
			if !impl.BlocksOk(filled(n, value)) {
				t.Errorf("%d blocks of %d are none", n, value)
			}
			for at := range n {
				list := ramp(n, 5)
				list[at] = value
				if !impl.BlocksOk(list) {
					t.Errorf("%v are no blocks", list)
				}
			}
		}
	}
	for _, list := range notBlocks() {
		if impl.BlocksOk(list) {
			t.Errorf("%v are blocks", list)
		}
	}
}

func TestNewBlocks(t *testing.T) {
	for n := int64(1); n <= 8; n++ {
		list := impl.NewBlocks(n)
		if !slices.Equal(list, make([]int64, n)) || !impl.BlocksOk(list) {
			t.Errorf("NewBlocks(%d) = %v", n, list)
		}
		spoil(list)
		if again := impl.NewBlocks(n); !slices.Equal(again, make([]int64, n)) {
			t.Errorf("NewBlocks(%d) = %v after its answer was written over", n, again)
		}
	}
	for _, n := range append([]int64{0}, notCounts...) {
		if list := impl.NewBlocks(n); len(list) != 0 {
			t.Errorf("NewBlocks(%d) = %v", n, list)
		}
	}
}

func TestPut(t *testing.T) {
	for n := 1; n <= 8; n++ {
		for at := range n {
			for _, value := range []int64{0, 1, 5, 17, 9998, 9999} {
				list := ramp(n, 5)
				want := ramp(n, 5)
				want[at] = value
				got, is := impl.Put(list, int64(at), value)
				if !is || !slices.Equal(got, want) {
					t.Errorf("Put(%v, %d, %d) = %v, %v", list, at, value, got, is)
				}
			}
		}
	}
}

func TestPutOutOfRangeLeavesTheBlocks(t *testing.T) {
	for n := 1; n <= 8; n++ {
		list := ramp(n, 5)
		wrong := func(at int64, value int64) {
			if got, is := impl.Put(list, at, value); is || !slices.Equal(got, list) {
				t.Errorf("Put(%v, %d, %d) = %v, %v", list, at, value, got, is)
			}
		}
		ats := append([]int64{int64(n), int64(n) + 1}, notIndexes...)
		for _, at := range ats {
			for _, value := range append([]int64{0, 1, 9999}, notValues...) {
				wrong(at, value)
			}
		}
		for at := range int64(n) {
			for _, value := range notValues {
				wrong(at, value)
			}
		}
	}
}

func TestPutIntoNoBlocks(t *testing.T) {
	for _, list := range notBlocks() {
		for _, at := range []int64{-1, 0, 1, 7, 8, math.MaxInt64, math.MinInt64} {
			for _, value := range []int64{-1, 0, 3, 9999, 10000, math.MinInt64} {
				if got, is := impl.Put(list, at, value); is || len(got) != 0 {
					t.Errorf("Put(%v, %d, %d) = %v, %v", list, at, value, got, is)
				}
			}
		}
	}
}

func TestDifferByHand(t *testing.T) {
	for _, c := range []struct {
		a, b []int64
		set  int64
	}{
		{[]int64{0}, []int64{0}, 0},
		{[]int64{0}, []int64{9999}, 1},
		{[]int64{1, 2, 3}, []int64{1, 2, 3}, 0},
		{[]int64{1, 2, 3}, []int64{1, 2, 4}, 4},
		{[]int64{1, 2, 3}, []int64{3, 2, 1}, 5},
		{[]int64{1, 2}, []int64{2, 1}, 3},
		{ramp(8, 0), ramp(8, 0), 0},
		{ramp(8, 0), ramp(8, 1), 255},
		{filled(8, 0), filled(8, 9999), 255},
		{filled(8, 0), []int64{0, 0, 0, 0, 0, 0, 0, 1}, 128},
		{filled(8, 0), []int64{1, 0, 0, 0, 0, 0, 0, 0}, 1},
		{[]int64{0, 1, 0, 1, 0, 1, 0, 1}, filled(8, 0), 0xaa},
	} {
		if got := impl.Differ(c.a, c.b); got != c.set {
			t.Errorf("Differ(%v, %v) = %d, not %d", c.a, c.b, got, c.set)
		}
	}
}

func TestDifferOfNoBlocks(t *testing.T) {
	for _, list := range notBlocks() {
		for n := range 10 {
			other := ramp(n, 5)
			if impl.Differ(list, other) != -1 || impl.Differ(other, list) != -1 {
				t.Errorf("Differ of %v and %v is a set", list, other)
			}
		}
		if impl.Differ(list, list) != -1 {
			t.Errorf("Differ of %v and itself is a set", list)
		}
	}
}

func TestBlocksThatAreNotAsMany(t *testing.T) {
	for n := 1; n <= 8; n++ {
		for m := 1; m <= 8; m++ {
			if n == m {
				continue
			}
			// Noughts at the end are blocks as well: they tell no count.
			for _, pair := range [][2][]int64{{ramp(n, 5), ramp(m, 5)}, {filled(n, 0), filled(m, 0)}} {
				if got := impl.Differ(pair[0], pair[1]); got != -1 {
					t.Errorf("Differ(%v, %v) = %d", pair[0], pair[1], got)
				}
				for _, set := range []int64{-1, 0, 1, 255, 256} {
					if got := impl.Chosen(pair[0], pair[1], set); len(got) != 0 {
						t.Errorf("Chosen(%v, %v, %d) = %v", pair[0], pair[1], set, got)
					}
				}
			}
		}
	}
}

func TestChosenByEachSet(t *testing.T) {
	for n := 1; n <= 8; n++ {
		a, b := ramp(n, 0), ramp(n, 9999-int64(n)+1)
		for set := range int64(256) {
			has := members(set)
			want := slices.Clone(a)
			for i := range want {
				if has[i] {
					want[i] = b[i]
				}
			}
			if got := impl.Chosen(a, b, set); !slices.Equal(got, want) {
				t.Errorf("Chosen(%v, %v, %d) = %v", a, b, set, got)
			}
		}
	}
}

func TestChosenAtTheEdges(t *testing.T) {
	for _, c := range []struct {
		a, b []int64
		set  int64
		want []int64
	}{
		{[]int64{0}, []int64{9999}, 0, []int64{0}},
		{[]int64{0}, []int64{9999}, 1, []int64{9999}},
		{[]int64{0}, []int64{9999}, 254, []int64{0}},
		{[]int64{0}, []int64{9999}, 255, []int64{9999}},
		{[]int64{1, 2, 3}, []int64{7, 8, 9}, 5, []int64{7, 2, 9}},
		{[]int64{1, 2, 3}, []int64{7, 8, 9}, 8, []int64{1, 2, 3}},
		{ramp(8, 0), ramp(8, 20), 0, ramp(8, 0)},
		{ramp(8, 0), ramp(8, 20), 255, ramp(8, 20)},
		{ramp(8, 0), ramp(8, 20), 128, []int64{0, 1, 2, 3, 4, 5, 6, 27}},
	} {
		if got := impl.Chosen(c.a, c.b, c.set); !slices.Equal(got, c.want) {
			t.Errorf("Chosen(%v, %v, %d) = %v, not %v", c.a, c.b, c.set, got, c.want)
		}
	}
}

func TestChosenOfWrongInputs(t *testing.T) {
	for _, set := range farNumbers {
		for n := 1; n <= 8; n++ {
			if got := impl.Chosen(ramp(n, 0), ramp(n, 20), set); len(got) != 0 {
				t.Errorf("Chosen by %d = %v", set, got)
			}
		}
	}
	for _, list := range notBlocks() {
		for _, set := range []int64{-1, 0, 1, 254, 255, 256, math.MaxInt64, math.MinInt64} {
			for n := range 10 {
				other := ramp(n, 5)
				if len(impl.Chosen(list, other, set)) != 0 || len(impl.Chosen(other, list, set)) != 0 {
					t.Errorf("Chosen of %v and %v by %d is something", list, other, set)
				}
			}
			if len(impl.Chosen(list, list, set)) != 0 {
				t.Errorf("Chosen of %v and itself by %d is something", list, set)
			}
		}
	}
}

// Chosen of Differ is the other one, and no block is in Differ that is alike.
func TestChosenOfDifferIsTheOther(t *testing.T) {
	check := func(a, b []int64) {
		set := impl.Differ(a, b)
		if got := impl.Chosen(a, b, set); !slices.Equal(got, b) {
			t.Errorf("Chosen(%v, %v, Differ = %d) = %v", a, b, set, got)
		}
		var has [8]bool
		for i := range a {
			has[i] = a[i] != b[i]
		}
		if set != setOf(has) || impl.Differ(b, a) != set {
			t.Errorf("Differ(%v, %v) = %d", a, b, set)
		}
	}
	for n := 1; n <= 4; n++ {
		eachBlocks(n, []int64{0, 1, 9999}, func(a []int64) {
			eachBlocks(n, []int64{0, 1, 9999}, func(b []int64) { check(a, b) })
		})
	}
	for n := 5; n <= 8; n++ {
		eachBlocks(n, []int64{0, 9999}, func(a []int64) {
			eachBlocks(n, []int64{0, 9999}, func(b []int64) { check(a, b) })
		})
	}
}

// What was put is what differs, and nothing else.
func TestDifferOfPut(t *testing.T) {
	for n := 1; n <= 8; n++ {
		for at := range int64(n) {
			list := ramp(n, 5)
			put, _ := impl.Put(list, at, 9999)
			if got := impl.Differ(list, put); got != impl.With(0, at) {
				t.Errorf("Differ(%v, %v) = %d", list, put, got)
			}
			same, _ := impl.Put(list, at, list[at])
			if got := impl.Differ(list, same); got != 0 {
				t.Errorf("Differ(%v, %v) = %d", list, same, got)
			}
		}
	}
}

func TestBlocksLeaveTheirArguments(t *testing.T) {
	for n := range 10 {
		a, b := ramp(n, 5), ramp(n, 50)
		sameArgs(t, "BlocksOk", [][]int64{a}, func(in [][]int64) { impl.BlocksOk(in[0]) })
		for _, at := range []int64{-1, 0, int64(n) - 1, int64(n), int64(n) + 1, 8} {
			for _, value := range []int64{-1, 0, 9999, 10000} {
				sameArgs(t, "Put", [][]int64{a}, func(in [][]int64) {
					got, _ := impl.Put(in[0], at, value)
					spoil(got)
				})
			}
		}
		for m := range 10 {
			c := ramp(m, 50)
			sameArgs(t, "Differ", [][]int64{a, c}, func(in [][]int64) { impl.Differ(in[0], in[1]) })
			sameArgs(t, "Differ", [][]int64{c, a}, func(in [][]int64) { impl.Differ(in[0], in[1]) })
		}
		for _, set := range []int64{-1, 0, 1, 85, 254, 255, 256} {
			for _, pair := range [][][]int64{{a, b}, {b, a}, {a, a}, {a, b[:n/2]}} {
				sameArgs(t, "Chosen", pair, func(in [][]int64) { spoil(impl.Chosen(in[0], in[1], set)) })
			}
		}
	}
	for _, list := range notBlocks() {
		sameArgs(t, "BlocksOk", [][]int64{list}, func(in [][]int64) { impl.BlocksOk(in[0]) })
		sameArgs(t, "Put", [][]int64{list}, func(in [][]int64) {
			got, _ := impl.Put(in[0], 0, 1)
			spoil(got)
		})
		sameArgs(t, "Chosen", [][]int64{list, list}, func(in [][]int64) { spoil(impl.Chosen(in[0], in[1], 255)) })
	}
}

// One list given as both is not to be told from two that are alike.
func TestBlocksOfOneListTwice(t *testing.T) {
	for n := 1; n <= 8; n++ {
		list := ramp(n, 5)
		if got := impl.Differ(list, list); got != 0 {
			t.Errorf("Differ(%v, itself) = %d", list, got)
		}
		got := impl.Chosen(list, list, 85)
		if !slices.Equal(got, ramp(n, 5)) {
			t.Errorf("Chosen(%v, itself, 85) = %v", list, got)
		}
		spoil(got)
		if !slices.Equal(list, ramp(n, 5)) {
			t.Errorf("Chosen hands out its argument")
		}
	}
}
