package tests

import (
	"math"
	"slices"
	"testing"

	"loop.example/g00354/impl"
)

func sameDisk(a, b impl.Disk) bool {
	return slices.Equal(a.Kept, b.Kept) && slices.Equal(a.Now, b.Now)
}

func noDisk(d impl.Disk) bool { return len(d.Kept) == 0 && len(d.Now) == 0 }

func cloneDisk(d impl.Disk) impl.Disk {
	return impl.Disk{Kept: slices.Clone(d.Kept), Now: slices.Clone(d.Now)}
}

// rampDisk has n blocks, all of them loose, and no two values alike.
func rampDisk(n int) impl.Disk {
	return impl.Disk{Kept: ramp(n, 5), Now: ramp(n, 50)}
}

// lostByHand tells block by block what power leaves, apart from the program's way.
func lostByHand(d impl.Disk, set int64) []int64 {
	left := slices.Clone(d.Kept)
	for i, in := range members(set) {
		if in && i < len(left) {
			left[i] = d.Now[i]
		}
	}
	return left
}

// Disks that are not right: no blocks in one or both, and not as many.
func notDisks() []impl.Disk {
	disks := []impl.Disk{}
	for _, list := range notBlocks() {
		n := len(list)
		disks = append(disks,
			impl.Disk{Kept: list, Now: list},
			impl.Disk{Kept: list, Now: ramp(n, 5)},
			impl.Disk{Kept: ramp(n, 5), Now: list},
			impl.Disk{Kept: list, Now: ramp(3, 5)},
			impl.Disk{Kept: ramp(3, 5), Now: list})
	}
	for n := range 10 {
		for m := range 10 {
			if n != m {
				disks = append(disks, impl.Disk{Kept: ramp(n, 5), Now: ramp(m, 5)}, impl.Disk{Kept: filled(n, 0), Now: filled(m, 0)})
			}
		}
	}
	return disks
}

// eachDisk goes through all disks of up to 4 blocks of the least, the next and the greatest value, and those of 5 to 8 of the edges alone.
func eachDisk(see func(impl.Disk)) {
	for n := 1; n <= 8; n++ {
		values := []int64{0, 1, 9999}
		if n > 4 {
			values = []int64{0, 9999}
		}
		eachBlocks(n, values, func(kept []int64) {
			eachBlocks(n, values, func(now []int64) { see(impl.Disk{Kept: kept, Now: now}) })
		})
	}
}

func TestDiskOk(t *testing.T) {
	for n := 1; n <= 8; n++ {
		for _, value := range []int64{0, 1, 9998, 9999} {
			for at := range n {
				d := rampDisk(n)
				d.Kept[at] = value
				if !impl.DiskOk(d) {
					t.Errorf("%v is not right", d)
				}
				d = rampDisk(n)
				d.Now[at] = value
				if !impl.DiskOk(d) {
					t.Errorf("%v is not right", d)
				}
			}
		}
	}
	if impl.DiskOk(impl.Disk{}) {
		t.Error("the zero Disk is right")
	}
	for _, d := range notDisks() {
		if impl.DiskOk(d) {
			t.Errorf("%v is right", d)
		}
	}
}

func TestNewDisk(t *testing.T) {
	for n := int64(1); n <= 8; n++ {
		zeros := make([]int64, n)
		d, is := impl.NewDisk(n)
		if !is || !sameDisk(d, impl.Disk{Kept: zeros, Now: zeros}) || !impl.DiskOk(d) || impl.Loose(d) != 0 {
			t.Errorf("NewDisk(%d) = %v, %v", n, d, is)
		}
		spoil(d.Now)
		if !slices.Equal(d.Kept, zeros) {
			t.Errorf("NewDisk(%d): Kept is %v after Now was written over", n, d.Kept)
		}
		spoil(d.Kept)
		if again, _ := impl.NewDisk(n); !sameDisk(again, impl.Disk{Kept: zeros, Now: zeros}) {
			t.Errorf("NewDisk(%d) = %v after its answer was written over", n, again)
		}
	}
	for _, n := range append([]int64{0}, notCounts...) {
		if d, is := impl.NewDisk(n); is || !noDisk(d) {
			t.Errorf("NewDisk(%d) = %v, %v", n, d, is)
		}
	}
}

func TestWrittenIsInNowAlone(t *testing.T) {
	for n := 1; n <= 8; n++ {
		for at := range n {
			for _, value := range []int64{0, 1, 17, 9998, 9999} {
				d := rampDisk(n)
				want := rampDisk(n)
				want.Now[at] = value
				if got, is := impl.Written(d, int64(at), value); !is || !sameDisk(got, want) {
					t.Errorf("Written(%v, %d, %d) = %v, %v", d, at, value, got, is)
				}
			}
			d := impl.Disk{Kept: ramp(n, 5), Now: ramp(n, 5)}
			if got, is := impl.Written(d, int64(at), d.Now[at]); !is || !sameDisk(got, d) || impl.Loose(got) != 0 {
				t.Errorf("Written(%v, %d) with what is there = %v, %v", d, at, got, is)
			}
		}
	}
}

func TestWrittenOutOfRangeLeavesTheDisk(t *testing.T) {
	for n := 1; n <= 8; n++ {
		d := rampDisk(n)
		wrong := func(at int64, value int64) {
			if got, is := impl.Written(d, at, value); is || !sameDisk(got, d) {
				t.Errorf("Written(%v, %d, %d) = %v, %v", d, at, value, got, is)
			}
		}
		for _, at := range append([]int64{int64(n), int64(n) + 1}, notIndexes...) {
			for _, value := range append([]int64{0, 1, 9999}, notValues...) {
				wrong(at, value)
			}
		}
		for at := range int64(n) {
			for _, value := range notValues {
				wrong(at, value)
			}
		}
	}
}

func TestFlushedKeepsWhatIsNow(t *testing.T) {
	eachDisk(func(d impl.Disk) {
		got := impl.Flushed(d)
		if !sameDisk(got, impl.Disk{Kept: d.Now, Now: d.Now}) || !impl.DiskOk(got) || impl.Loose(got) != 0 {
			t.Errorf("Flushed(%v) = %v", d, got)
		}
	})
}

func TestLooseByHand(t *testing.T) {
	for _, c := range []struct {
		kept, now []int64
		set       int64
	}{
		{[]int64{0}, []int64{0}, 0},
		{[]int64{0}, []int64{9999}, 1},
		{[]int64{1, 2, 3}, []int64{1, 2, 3}, 0},
		{[]int64{1, 2, 3}, []int64{1, 9, 3}, 2},
		{[]int64{1, 2, 3}, []int64{3, 2, 1}, 5},
		{filled(8, 0), filled(8, 9999), 255},
		{filled(8, 0), []int64{0, 0, 0, 0, 0, 0, 0, 1}, 128},
		{[]int64{1, 0, 0, 0, 0, 0, 0, 0}, filled(8, 0), 1},
	} {
		if got := impl.Loose(impl.Disk{Kept: c.kept, Now: c.now}); got != c.set {
			t.Errorf("Loose of %v and %v = %d, not %d", c.kept, c.now, got, c.set)
		}
	}
}

func TestLooseTellsEachBlock(t *testing.T) {
	eachDisk(func(d impl.Disk) {
		var has [8]bool
		for i := range d.Kept {
			has[i] = d.Kept[i] != d.Now[i]
		}
		if got := impl.Loose(d); got != setOf(has) {
			t.Errorf("Loose(%v) = %d", d, got)
		}
	})
}

func TestLostByHand(t *testing.T) {
	for _, c := range []struct {
		kept, now []int64
		set       int64
		left      []int64
	}{
		{[]int64{0}, []int64{9999}, 0, []int64{0}},
		{[]int64{0}, []int64{9999}, 1, []int64{9999}},
		{[]int64{0}, []int64{9999}, 254, []int64{0}},
		{[]int64{0}, []int64{9999}, 255, []int64{9999}},
		{[]int64{9999}, []int64{0}, 1, []int64{0}},
		{[]int64{1, 2, 3}, []int64{7, 8, 9}, 5, []int64{7, 2, 9}},
		{[]int64{1, 2, 3}, []int64{7, 8, 9}, 8, []int64{1, 2, 3}},
		{ramp(8, 0), ramp(8, 20), 0, ramp(8, 0)},
		{ramp(8, 0), ramp(8, 20), 255, ramp(8, 20)},
		{ramp(8, 0), ramp(8, 20), 128, []int64{0, 1, 2, 3, 4, 5, 6, 27}},
	} {
		d := impl.Disk{Kept: c.kept, Now: c.now}
		if got := impl.Lost(d, c.set); !sameDisk(got, impl.Disk{Kept: c.left, Now: c.left}) {
			t.Errorf("Lost(%v, %d) = %v, not %v twice", d, c.set, got, c.left)
		}
	}
}

func TestLostByEachSet(t *testing.T) {
	for n := 1; n <= 8; n++ {
		d := rampDisk(n)
		for set := range int64(256) {
			left := lostByHand(d, set)
			got := impl.Lost(d, set)
			if !sameDisk(got, impl.Disk{Kept: left, Now: left}) || !impl.DiskOk(got) {
				t.Errorf("Lost(%v, %d) = %v", d, set, got)
			}
			if twice := impl.Lost(got, 255-set); !sameDisk(twice, got) {
				t.Errorf("Lost(%v, %d) = %v: what is kept was lost", got, 255-set, twice)
			}
		}
	}
}

func TestLostOfNoSetLeavesTheDisk(t *testing.T) {
	for _, set := range farNumbers {
		for n := 1; n <= 8; n++ {
			d := rampDisk(n)
			if got := impl.Lost(d, set); !sameDisk(got, d) {
				t.Errorf("Lost(%v, %d) = %v", d, set, got)
			}
		}
	}
}

// What is Flushed is not Lost, whatever reached the disk.
func TestWhatIsFlushedIsNotLost(t *testing.T) {
	sets := []int64{0, 1, 2, 85, 127, 128, 170, 254, 255, -1, 256, math.MaxInt64, math.MinInt64}
	eachDisk(func(d impl.Disk) {
		flushed := impl.Flushed(d)
		for _, set := range sets {
			got := impl.Lost(flushed, set)
			if !slices.Equal(got.Now, d.Now) || !slices.Equal(got.Kept, d.Now) {
				t.Errorf("Lost(Flushed(%v), %d) = %v", d, set, got)
			}
		}
	})
	for n := 1; n <= 8; n++ {
		flushed := impl.Flushed(rampDisk(n))
		for set := range int64(256) {
			if got := impl.Lost(flushed, set); !sameDisk(got, flushed) {
				t.Errorf("Lost(%v, %d) = %v", flushed, set, got)
			}
		}
	}
}

// What was written after the flush is lost, and what was flushed is there again.
func TestWrittenAfterFlushedIsLost(t *testing.T) {
	for n := int64(1); n <= 8; n++ {
		for at := range n {
			for value := range int64(3) {
				d, _ := impl.NewDisk(n)
				d, _ = impl.Written(d, at, 9999)
				d = impl.Flushed(d)
				kept := cloneDisk(d)
				d, _ = impl.Written(d, at, value)
				if got := impl.Loose(d); got != impl.With(0, at) {
					t.Errorf("Loose(%v) = %d", d, got)
				}
				if got := impl.Lost(d, impl.Without(255, at)); !sameDisk(got, kept) {
					t.Errorf("Lost(%v) all but %d = %v, not %v", d, at, got, kept)
				}
				if got := impl.Lost(d, impl.With(0, at)); !sameDisk(got, impl.Flushed(d)) {
					t.Errorf("Lost(%v) but for %d = %v", d, at, got)
				}
			}
		}
	}
}

func TestOfNoDisk(t *testing.T) {
	for _, d := range notDisks() {
		for _, at := range []int64{-1, 0, 1, 7, 8, 9, math.MaxInt64, math.MinInt64} {
			for _, value := range []int64{-1, 0, 3, 9999, 10000, math.MinInt64} {
				if got, is := impl.Written(d, at, value); is || !noDisk(got) {
					t.Errorf("Written(%v, %d, %d) = %v, %v", d, at, value, got, is)
				}
			}
		}
		if got := impl.Flushed(d); !noDisk(got) {
			t.Errorf("Flushed(%v) = %v", d, got)
		}
		if got := impl.Loose(d); got != -1 {
			t.Errorf("Loose(%v) = %d", d, got)
		}
		for _, set := range append([]int64{0, 1, 254, 255}, farNumbers...) {
			if got := impl.Lost(d, set); !noDisk(got) {
				t.Errorf("Lost(%v, %d) = %v", d, set, got)
			}
		}
	}
}

// A diskCall is a call with its other arguments given; what has no Disk to answer answers the zero one.
type diskCall struct {
	name string
	call func(impl.Disk) impl.Disk
}

func diskCalls() []diskCall {
	calls := []diskCall{
		{"Flushed", impl.Flushed},
		{"DiskOk", func(d impl.Disk) impl.Disk { impl.DiskOk(d); return impl.Disk{} }},
		{"Loose", func(d impl.Disk) impl.Disk { impl.Loose(d); return impl.Disk{} }},
	}
	for _, set := range []int64{-1, 0, 1, 85, 170, 254, 255, 256} {
		calls = append(calls, diskCall{"Lost", func(d impl.Disk) impl.Disk { return impl.Lost(d, set) }})
	}
	for _, at := range []int64{-1, 0, 1, 2, 3, 7, 8, 9} {
		for _, value := range []int64{-1, 0, 9999, 10000} {
			calls = append(calls, diskCall{"Written", func(d impl.Disk) impl.Disk {
				got, _ := impl.Written(d, at, value)
				return got
			}})
		}
	}
	return calls
}

func disksToLeaveAlone() []impl.Disk {
	disks := notDisks()
	for n := 1; n <= 8; n++ {
		disks = append(disks, rampDisk(n), impl.Disk{Kept: ramp(n, 5), Now: ramp(n, 5)})
	}
	return disks
}

// leavesDisks wants each of the calls to write into nothing that it was given, and to hand out none of it.
func leavesDisks(t *testing.T, calls []diskCall) {
	t.Helper()
	for _, d := range disksToLeaveAlone() {
		for _, c := range calls {
			sameArgs(t, c.name, [][]int64{d.Kept, d.Now}, func(in [][]int64) {
				got := c.call(impl.Disk{Kept: in[0], Now: in[1]})
				spoil(got.Kept)
				spoil(got.Now)
			})
		}
	}
}

// keptApart wants Kept and Now of each answer to share no memory.
func keptApart(t *testing.T, calls []diskCall) {
	t.Helper()
	for _, d := range disksToLeaveAlone() {
		for _, c := range calls {
			got := c.call(d)
			want := cloneDisk(got)
			spoil(got.Now)
			if !slices.Equal(got.Kept, want.Kept) {
				t.Errorf("%s(%v): Kept is %v after Now was written over", c.name, d, got.Kept)
			}
			got = c.call(d)
			spoil(got.Kept)
			if !slices.Equal(got.Now, want.Now) {
				t.Errorf("%s(%v): Now is %v after Kept was written over", c.name, d, got.Now)
			}
		}
	}
}

// eachOverlap goes through disks whose lists lie over each other in memory, each with one alike whose lists do not.
func eachOverlap(see func(over, apart impl.Disk)) {
	for n := 1; n <= 8; n++ {
		for from := range n + 1 {
			whole := ramp(2*n, 5)
			over := impl.Disk{Kept: whole[from : from+n], Now: whole[:n]}
			see(over, cloneDisk(over))
		}
	}
}

// blindToOverlap wants a disk whose lists lie over each other not to be told from one whose lists do not.
func blindToOverlap(t *testing.T, calls []diskCall) {
	t.Helper()
	eachOverlap(func(over, apart impl.Disk) {
		for _, c := range calls {
			got, want := c.call(over), c.call(apart)
			if !sameDisk(got, want) {
				t.Errorf("%s(%v) = %v, not %v", c.name, apart, got, want)
			}
			spoil(got.Kept)
			spoil(got.Now)
			if !sameDisk(over, apart) {
				t.Fatalf("%s hands out its argument", c.name)
			}
		}
	})
}

func TestDiskLeavesItsArgument(t *testing.T) { leavesDisks(t, diskCalls()) }

func TestKeptAndNowShareNothing(t *testing.T) { keptApart(t, diskCalls()) }

func TestDiskOfListsThatShare(t *testing.T) {
	blindToOverlap(t, diskCalls())
	eachOverlap(func(over, apart impl.Disk) {
		if impl.Loose(over) != impl.Loose(apart) || !impl.DiskOk(over) {
			t.Errorf("Loose(%v) = %d", apart, impl.Loose(over))
		}
	})
}
