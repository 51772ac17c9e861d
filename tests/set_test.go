package tests

import (
	"math"
	"slices"
	"testing"

	"loop.example/g00354/impl"
)

// Numbers that are no set, and no block and no count either, near the edges and far from them.
var farNumbers = []int64{-1, -2, -8, -256, 256, 257, 512, 1 << 32, 1<<32 + 1, math.MaxInt64, math.MinInt64, math.MinInt64 + 1}

var notIndexes = append([]int64{8, 9, 63, 64, 65, 255}, farNumbers...)

var notCounts = append([]int64{9, 63, 64, 65, 255}, farNumbers...)

// members is a set told in another way than the program does, so that the two can be held against each other.
func members(set int64) [8]bool {
	var has [8]bool
	for i := range has {
		has[i] = set%2 == 1
		set /= 2
	}
	return has
}

func setOf(has [8]bool) int64 {
	set, weight := int64(0), int64(1)
	for _, in := range has {
		if in {
			set += weight
		}
		weight *= 2
	}
	return set
}

func TestInTellsEachBit(t *testing.T) {
	for set := range int64(256) {
		for i, want := range members(set) {
			if got := impl.In(set, int64(i)); got != want {
				t.Errorf("In(%d, %d) = %v", set, i, got)
			}
		}
	}
}

func TestWithAndWithoutChangeOneBlock(t *testing.T) {
	for set := range int64(256) {
		for i := range int64(8) {
			has := members(set)
			has[i] = true
			if got := impl.With(set, i); got != setOf(has) {
				t.Errorf("With(%d, %d) = %d", set, i, got)
			}
			has[i] = false
			if got := impl.Without(set, i); got != setOf(has) {
				t.Errorf("Without(%d, %d) = %d", set, i, got)
			}
		}
	}
}

func TestWithAndWithoutAtTheEdges(t *testing.T) {
	for _, c := range []struct{ set, i, with, without int64 }{
		{0, 0, 1, 0},
		{0, 7, 128, 0},
		{255, 0, 255, 254},
		{255, 7, 255, 127},
		{8, 3, 8, 0},
		{9, 1, 11, 9},
	} {
		if got := impl.With(c.set, c.i); got != c.with {
			t.Errorf("With(%d, %d) = %d, not %d", c.set, c.i, got, c.with)
		}
		if got := impl.Without(c.set, c.i); got != c.without {
			t.Errorf("Without(%d, %d) = %d, not %d", c.set, c.i, got, c.without)
		}
	}
}

func TestNoSuchBlockLeavesTheSet(t *testing.T) {
	for set := range int64(256) {
		for _, i := range notIndexes {
			if impl.In(set, i) {
				t.Errorf("In(%d, %d)", set, i)
			}
			if got := impl.With(set, i); got != set {
				t.Errorf("With(%d, %d) = %d", set, i, got)
			}
			if got := impl.Without(set, i); got != set {
				t.Errorf("Without(%d, %d) = %d", set, i, got)
			}
		}
	}
}

func TestNoSet(t *testing.T) {
	for _, set := range farNumbers {
		for _, i := range append([]int64{0, 1, 2, 3, 4, 5, 6, 7}, notIndexes...) {
			if impl.In(set, i) {
				t.Errorf("In(%d, %d)", set, i)
			}
			if got := impl.With(set, i); got != -1 {
				t.Errorf("With(%d, %d) = %d", set, i, got)
			}
			if got := impl.Without(set, i); got != -1 {
				t.Errorf("Without(%d, %d) = %d", set, i, got)
			}
		}
		if got := impl.First(set); got != -1 {
			t.Errorf("First(%d) = %d", set, got)
		}
		if got := impl.Runs(set); len(got) != 0 {
			t.Errorf("Runs(%d) = %v", set, got)
		}
	}
}

func TestFirstIsTheLeast(t *testing.T) {
	for set := range int64(256) {
		has := members(set)
		want := int64(slices.Index(has[:], true))
		if got := impl.First(set); got != want {
			t.Errorf("First(%d) = %d, not %d", set, got, want)
		}
	}
	if impl.First(0) != -1 || impl.First(1) != 0 || impl.First(128) != 7 || impl.First(255) != 0 {
		t.Error("First at the edges")
	}
}

func TestFull(t *testing.T) {
	for n, want := range []int64{0, 1, 3, 7, 15, 31, 63, 127, 255} {
		if got := impl.Full(int64(n)); got != want {
			t.Errorf("Full(%d) = %d, not %d", n, got, want)
		}
	}
	for _, n := range notCounts {
		if got := impl.Full(n); got != -1 {
			t.Errorf("Full(%d) = %d", n, got)
		}
	}
}

func TestRunsByHand(t *testing.T) {
	for _, c := range []struct {
		set  int64
		runs []int64
	}{
		{0, nil},
		{1, []int64{0, 1}},
		{128, []int64{7, 1}},
		{255, []int64{0, 8}},
		{129, []int64{0, 1, 7, 1}},
		{127, []int64{0, 7}},
		{254, []int64{1, 7}},
		{0xc3, []int64{0, 2, 6, 2}},
		{0x18, []int64{3, 2}},
		{0x55, []int64{0, 1, 2, 1, 4, 1, 6, 1}},
		{0xaa, []int64{1, 1, 3, 1, 5, 1, 7, 1}},
		{0xef, []int64{0, 4, 5, 3}},
	} {
		if got := impl.Runs(c.set); !slices.Equal(got, c.runs) {
			t.Errorf("Runs(%#x) = %v, not %v", c.set, got, c.runs)
		}
	}
}

// Laid together the runs are the set, and no run stands beside another one.
func TestRunsAreTheSet(t *testing.T) {
	for set := range int64(256) {
		runs := impl.Runs(set)
		if len(runs)%2 != 0 {
			t.Fatalf("Runs(%d) = %v: half a run", set, runs)
		}
		var has [8]bool
		free := int64(0)
		for k := 0; k < len(runs); k += 2 {
			first, count := runs[k], runs[k+1]
			if first < free || count < 1 || first+count > 8 {
				t.Fatalf("Runs(%d) = %v: run %d", set, runs, k/2)
			}
			for i := first; i < first+count; i++ {
				has[i] = true
			}
			free = first + count + 1
		}
		if setOf(has) != set {
			t.Errorf("Runs(%d) = %v", set, runs)
		}
	}
}

// What was put in, and nothing else, is there; taken out again it is gone.
func TestASetHasWhatWasPutIn(t *testing.T) {
	for want := range int64(256) {
		has := members(want)
		up, down := int64(0), impl.Full(8)
		for i := int64(7); i >= 0; i-- {
			if has[i] {
				up = impl.With(up, i)
			} else {
				down = impl.Without(down, i)
			}
		}
		if up != want || down != want {
			t.Errorf("put in: %d, left: %d, not %d", up, down, want)
		}
		for n := 0; up != 0; n++ {
			if n == 8 {
				t.Fatalf("%d is never empty", want)
			}
			up = impl.Without(up, impl.First(up))
		}
	}
}

func TestRunsAreNewMemory(t *testing.T) {
	for _, set := range []int64{0, 1, 0x55, 255, -1, 256} {
		want := slices.Clone(impl.Runs(set))
		got := impl.Runs(set)
		got = got[:cap(got)]
		for k := range got {
			got[k] = 99
		}
		if again := impl.Runs(set); !slices.Equal(again, want) {
			t.Errorf("Runs(%d) = %v after its answer was written over", set, again)
		}
	}
}
