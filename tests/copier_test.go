package tests

import (
	"fmt"
	"math"
	"math/rand"
	"slices"
	"testing"

	"loop.example/g00354/impl"
)

func copierOf(try int64, open bool, dirty, waits int64, turns ...int64) impl.Copier {
	return impl.Copier{Try: try, Open: open, Dirty: dirty, Waits: waits, Turns: turns}
}

func cloneCopier(c impl.Copier) impl.Copier {
	c.Turns = slices.Clone(c.Turns)
	return c
}

func sameCopier(a, b impl.Copier) bool {
	return a.Try == b.Try && a.Open == b.Open && a.Dirty == b.Dirty && a.Waits == b.Waits && slices.Equal(a.Turns, b.Turns)
}

// setByHand asks for a set of n blocks by what it has, and not by how great it is.
func setByHand(set int64, n int) bool {
	if set < 0 || set > 255 {
		return false
	}
	has := members(set)
	return !slices.Contains(has[n:], true)
}

func copierOkByHand(c impl.Copier) bool {
	n := len(c.Turns)
	if c.Try == 0 {
		return !c.Open && c.Dirty == 0 && c.Waits == 0 && n == 0
	}
	if c.Try < 0 || c.Try > 100000 || n < 1 || n > 8 {
		return false
	}
	for _, turn := range c.Turns {
		if turn < 0 || turn > 1000000000 {
			return false
		}
	}
	return setByHand(c.Dirty, n) && setByHand(c.Waits, n)
}

func withByHand(set int64, at int64, in bool) int64 {
	has := members(set)
	has[at] = in
	return setOf(has)
}

func markedByHand(c impl.Copier, at int64) impl.Copier {
	if !copierOkByHand(c) {
		return impl.Copier{}
	}
	c = cloneCopier(c)
	if at >= 0 && at < int64(len(c.Turns)) {
		c.Dirty = withByHand(c.Dirty, at, true)
	}
	return c
}

func nextByHand(c impl.Copier) (impl.Copier, int64) {
	if !copierOkByHand(c) {
		return impl.Copier{}, -1
	}
	c = cloneCopier(c)
	dirty := members(c.Dirty)
	at := slices.Index(dirty[:], true)
	if !c.Open || at < 0 || c.Turns[at] == 1000000000 {
		return c, -1
	}
	c.Dirty = withByHand(c.Dirty, int64(at), false)
	c.Waits = withByHand(c.Waits, int64(at), true)
	c.Turns[at]++
	return c, int64(at)
}

func ackedByHand(c impl.Copier, at int64, turn int64) impl.Copier {
	if !copierOkByHand(c) {
		return impl.Copier{}
	}
	c = cloneCopier(c)
	if at >= 0 && at < int64(len(c.Turns)) && c.Turns[at] == turn {
		c.Waits = withByHand(c.Waits, at, false)
	}
	return c
}

func againByHand(c impl.Copier) impl.Copier {
	if !copierOkByHand(c) {
		return impl.Copier{}
	}
	c = cloneCopier(c)
	for at, waits := range members(c.Waits) {
		if waits {
			c.Dirty = withByHand(c.Dirty, int64(at), true)
		}
	}
	c.Waits = 0
	return c
}

func cleanByHand(c impl.Copier) bool {
	return copierOkByHand(c) && c.Open && c.Dirty == 0 && c.Waits == 0
}

// wantCopier holds one answer against the given one, and wants the argument as it was.
func wantCopier(t *testing.T, what string, c impl.Copier, call func(impl.Copier) impl.Copier, want impl.Copier) {
	t.Helper()
	before := cloneCopier(c)
	if got := call(c); !sameCopier(got, want) {
		t.Errorf("%s of %v = %v, not %v", what, before, got, want)
	}
	if !sameCopier(c, before) {
		t.Errorf("%s of %v: it is %v now", what, before, c)
	}
}

func wantMarked(t *testing.T, c impl.Copier, at int64, want impl.Copier) {
	t.Helper()
	wantCopier(t, fmt.Sprint("Marked at ", at), c, func(c impl.Copier) impl.Copier { return impl.Marked(c, at) }, want)
}

func wantNext(t *testing.T, c impl.Copier, want impl.Copier, wantAt int64) {
	t.Helper()
	wantCopier(t, "Next", c, func(c impl.Copier) impl.Copier {
		got, at := impl.Next(c)
		if at != wantAt {
			t.Errorf("Next of %v tells %d, not %d", c, at, wantAt)
		}
		return got
	}, want)
}

func wantAcked(t *testing.T, c impl.Copier, at int64, turn int64, want impl.Copier) {
	t.Helper()
	wantCopier(t, fmt.Sprintf("Acked at %d with %d", at, turn), c, func(c impl.Copier) impl.Copier { return impl.Acked(c, at, turn) }, want)
}

func wantAgain(t *testing.T, c impl.Copier, want impl.Copier) {
	t.Helper()
	wantCopier(t, "Again", c, impl.Again, want)
}

func wantClean(t *testing.T, c impl.Copier, want bool) {
	t.Helper()
	if got := impl.Clean(c); got != want {
		t.Errorf("Clean of %v = %v", c, got)
	}
}

// wantCopierByHand asks all that has a Copier alone, and the others at each place with Turns that it has and has not.
func wantCopierByHand(t *testing.T, c impl.Copier) {
	t.Helper()
	if got := impl.CopierOk(c); got != copierOkByHand(c) {
		t.Errorf("CopierOk of %v = %v", c, got)
	}
	wantClean(t, c, cleanByHand(c))
	wantAgain(t, c, againByHand(c))
	next, at := nextByHand(c)
	wantNext(t, c, next, at)
	n := int64(len(c.Turns))
	for at := int64(-1); at <= n; at++ {
		wantMarked(t, c, at, markedByHand(c, at))
		turn := int64(0)
		if at >= 0 && at < n {
			turn = c.Turns[at]
		}
		for _, turn := range []int64{turn - 1, turn, turn + 1} {
			wantAcked(t, c, at, turn, ackedByHand(c, at, turn))
		}
	}
}

// wantNoCopier wants what a Copier that is not right is answered by each function.
func wantNoCopier(t *testing.T, c impl.Copier) {
	t.Helper()
	if impl.CopierOk(c) {
		t.Errorf("CopierOk of %v", c)
	}
	wantClean(t, c, false)
	wantAgain(t, c, impl.Copier{})
	wantNext(t, c, impl.Copier{}, -1)
	for _, at := range []int64{-1, 0, 1, 7, 8, math.MaxInt64, math.MinInt64} {
		wantMarked(t, c, at, impl.Copier{})
		for _, turn := range []int64{-1, 0, 1, 5, 1000000000, 1000000001} {
			wantAcked(t, c, at, turn, impl.Copier{})
		}
	}
}

var rightTries = []int64{1, 2, 50000, 99999, 100000}

var notTries = []int64{-1, -2, -100000, 100001, 100002, 1 << 31, 1 << 32, 1<<32 + 1, math.MaxInt64, math.MinInt64, math.MinInt64 + 1}

// eachSets goes through each two sets of n blocks, with both flags.
func eachSets(n int, see func(open bool, dirty, waits int64)) {
	top := int64(1) << n
	for _, open := range eachFlag {
		for dirty := range top {
			for waits := range top {
				see(open, dirty, waits)
			}
		}
	}
}

func TestCopierConstants(t *testing.T) {
	if impl.MaxEpoch != 100000 || impl.MaxTurn != 1000000000 {
		t.Error(impl.MaxEpoch, impl.MaxTurn)
	}
}

func TestNewCopierWrittenOut(t *testing.T) {
	for _, one := range []struct {
		n, try int64
		want   impl.Copier
	}{
		{1, 1, copierOf(1, false, 1, 0, 0)},
		{1, 100000, copierOf(100000, false, 1, 0, 0)},
		{2, 7, copierOf(7, false, 3, 0, 0, 0)},
		{4, 3, copierOf(3, false, 15, 0, 0, 0, 0, 0)},
		{8, 1, copierOf(1, false, 255, 0, 0, 0, 0, 0, 0, 0, 0, 0)},
		{8, 100000, copierOf(100000, false, 255, 0, 0, 0, 0, 0, 0, 0, 0, 0)},
	} {
		if got, is := impl.NewCopier(one.n, one.try); !is || !sameCopier(got, one.want) {
			t.Errorf("NewCopier(%d, %d) = %v, %v", one.n, one.try, got, is)
		}
	}
}

// A new one is right, and nothing goes of it before it is Open.
func TestNewCopier(t *testing.T) {
	for n := int64(1); n <= 8; n++ {
		for _, try := range rightTries {
			want := copierOf(try, false, 1<<n-1, 0, make([]int64, n)...)
			c, is := impl.NewCopier(n, try)
			if !is || !sameCopier(c, want) || !impl.CopierOk(c) || impl.Clean(c) {
				t.Errorf("NewCopier(%d, %d) = %v, %v", n, try, c, is)
			}
			wantNext(t, c, want, -1)
			wantAgain(t, c, want)
			spoil(c.Turns)
			if again, _ := impl.NewCopier(n, try); !sameCopier(again, want) {
				t.Errorf("NewCopier(%d, %d) = %v after its answer was written over", n, try, again)
			}
		}
	}
}

func TestNewCopierOutOfRange(t *testing.T) {
	wrong := func(n, try int64) {
		if c, is := impl.NewCopier(n, try); is || !sameCopier(c, impl.Copier{}) {
			t.Errorf("NewCopier(%d, %d) = %v, %v", n, try, c, is)
		}
	}
	noTries := append([]int64{0}, notTries...)
	for _, n := range append([]int64{0}, notCounts...) {
		for _, try := range append(rightTries, noTries...) {
			wrong(n, try)
		}
	}
	for n := int64(1); n <= 8; n++ {
		for _, try := range noTries {
			wrong(n, try)
		}
	}
}

// At its edges: the zero one, the least and the greatest Try and Turns, each set of each count, Open or not.
func TestCopierOk(t *testing.T) {
	right := []impl.Copier{{}, {Turns: []int64{}}, {Turns: make([]int64, 0, 9)}}
	for n := 1; n <= 8; n++ {
		for _, try := range rightTries {
			for _, turn := range rightTurns {
				right = append(right, copierOf(try, true, 1<<n-1, 1<<n-1, filled(n, turn)...), copierOf(try, false, 0, 0, filled(n, turn)...))
				for at := range n {
					c := copierOf(try, true, 1<<at, 1, ramp(n, 5)...)
					c.Turns[at] = turn
					right = append(right, c)
				}
			}
		}
		eachSets(n, func(open bool, dirty, waits int64) {
			if c := copierOf(9, open, dirty, waits, ramp(n, 0)...); !impl.CopierOk(c) {
				t.Errorf("%v is not right", c)
			}
		})
	}
	for _, c := range right {
		if !impl.CopierOk(c) {
			t.Errorf("%v is not right", c)
		}
	}
}

// A copierBreach is a Copier with one thing about it that is not right.
type copierBreach struct {
	what   string
	broken impl.Copier
}

// triedBreaches are those of a Copier of n blocks whose Try is from 1 on, with the wrong thing in each place.
func triedBreaches(n int) []copierBreach {
	list := []copierBreach{}
	right := copierOf(9, true, 0, 0, ramp(n, 5)...)
	add := func(what string, change func(c *impl.Copier)) {
		for _, sets := range [][2]int64{{0, 0}, {1, 1}, {1<<n - 1, 0}, {0, 1<<n - 1}} {
			for _, open := range eachFlag {
				c := cloneCopier(right)
				c.Open, c.Dirty, c.Waits = open, sets[0], sets[1]
				change(&c)
				list = append(list, copierBreach{what, c})
			}
		}
	}
	for _, try := range notTries {
		add(fmt.Sprint("Try ", try), func(c *impl.Copier) { c.Try = try })
	}
	for at := range n {
		for _, turn := range notTurns {
			add(fmt.Sprint("Turn ", turn), func(c *impl.Copier) { c.Turns[at] = turn })
		}
	}
	for _, far := range farNumbers {
		add(fmt.Sprint("Dirty ", far), func(c *impl.Copier) { c.Dirty = far })
		add(fmt.Sprint("Waits ", far), func(c *impl.Copier) { c.Waits = far })
	}
	for at := n; at < 8; at++ {
		for _, rest := range []int64{0, 1, 1<<n - 1} {
			add(fmt.Sprint("Dirty with block ", at), func(c *impl.Copier) { c.Dirty = 1<<at + rest })
			add(fmt.Sprint("Waits with block ", at), func(c *impl.Copier) { c.Waits = 1<<at + rest })
		}
	}
	return list
}

func copierBreaches() []copierBreach {
	list := []copierBreach{}
	for n := 1; n <= 8; n++ {
		list = append(list, triedBreaches(n)...)
		list = append(list,
			copierBreach{"Try 0 with Turns", copierOf(0, false, 0, 0, make([]int64, n)...)},
			copierBreach{"Try 0 with Turns that have gone on", copierOf(0, false, 0, 0, ramp(n, 1)...)},
			copierBreach{"Try 0 with all but a Try", copierOf(0, true, 1, 1, ramp(n, 1)...)})
	}
	for _, n := range []int{9, 10, 16, 255, 256, 257, 264, 1000} {
		list = append(list, copierBreach{"too many Turns", copierOf(9, true, 0, 0, make([]int64, n)...)}, copierBreach{"too many Turns", copierOf(9, false, 255, 255, ramp(n, 5)...)}, copierBreach{"Try 0 with too many", copierOf(0, false, 0, 0, make([]int64, n)...)})
	}
	for _, try := range rightTries {
		list = append(list, copierBreach{"no Turns", copierOf(try, false, 0, 0)}, copierBreach{"no Turns, Open", copierOf(try, true, 0, 0)}, copierBreach{"no Turns, Dirty", copierOf(try, true, 1, 0)}, copierBreach{"no Turns, Waits", copierOf(try, true, 0, 1)})
	}
	for _, set := range append([]int64{1, 2, 128, 255}, farNumbers...) {
		list = append(list, copierBreach{"Try 0 with Dirty", copierOf(0, false, set, 0)}, copierBreach{"Try 0 with Waits", copierOf(0, false, 0, set)}, copierBreach{"Try 0 with both", copierOf(0, false, set, set)})
	}
	for _, try := range notTries {
		list = append(list, copierBreach{"a wrong Try alone", copierOf(try, false, 0, 0)})
	}
	return append(list, copierBreach{"Try 0 and Open", copierOf(0, true, 0, 0)})
}

func TestOfNoCopier(t *testing.T) {
	for _, b := range copierBreaches() {
		if copierOkByHand(b.broken) {
			t.Fatal(b)
		}
		wantNoCopier(t, b.broken)
		if t.Failed() {
			t.Fatal(b.what)
		}
	}
}

// With Try 0 there is no block, nothing Waits, and nothing is Clean.
func TestOfTheZeroCopier(t *testing.T) {
	for _, c := range []impl.Copier{{}, {Turns: []int64{}}, {Turns: ramp(9, 1)[:0]}} {
		if !impl.CopierOk(c) {
			t.Errorf("%v is not right", c)
		}
		wantClean(t, c, false)
		wantNext(t, c, c, -1)
		wantAgain(t, c, c)
		for _, at := range append([]int64{0, 1, 7}, notIndexes...) {
			wantMarked(t, c, at, c)
			for _, turn := range append(slices.Clone(rightTurns), notTurns...) {
				wantAcked(t, c, at, turn, c)
			}
		}
	}
}

func TestMarkedWrittenOut(t *testing.T) {
	for _, one := range []struct {
		what         string
		dirty, waits int64
		at           int64
		want         int64
	}{
		{"one that is neither", 0, 0, 1, 2},
		{"the first one", 0, 0, 0, 1},
		{"the last one", 0, 0, 2, 4},
		{"beside others", 5, 2, 1, 7},
		{"one that is Dirty already", 2, 0, 1, 2},
		{"one of all that are Dirty already", 7, 7, 1, 7},
		{"one that Waits", 0, 2, 1, 2},
		{"one that Waits, beside others", 1, 6, 2, 5},
		{"one that is both already", 4, 4, 2, 4},
		{"one below 0", 1, 2, -1, 1},
		{"one past the end", 1, 2, 3, 1},
		{"one past the end of a set", 1, 2, 8, 1},
	} {
		t.Run(one.what, func(t *testing.T) {
			for _, open := range eachFlag {
				c := copierOf(4, open, one.dirty, one.waits, 0, 7, impl.MaxTurn)
				wantMarked(t, c, one.at, copierOf(4, open, one.want, one.waits, 0, 7, impl.MaxTurn))
			}
		})
	}
}

func TestMarkedOfNoBlock(t *testing.T) {
	for n := 1; n <= 8; n++ {
		for _, at := range append([]int64{int64(n), int64(n) + 1}, notIndexes...) {
			for _, open := range eachFlag {
				for _, set := range []int64{0, 1, 1<<n - 1} {
					c := copierOf(9, open, set, 1<<n-1-set, ramp(n, 0)...)
					wantMarked(t, c, at, c)
				}
			}
		}
	}
}

func TestNextWrittenOut(t *testing.T) {
	const top = impl.MaxTurn
	for _, one := range []struct {
		what string
		c    impl.Copier
		want impl.Copier
		at   int64
	}{
		{"the First of all", copierOf(4, true, 7, 0, 0, 0, 0), copierOf(4, true, 6, 1, 1, 0, 0), 0},
		{"the First of two", copierOf(4, true, 6, 1, 5, 6, 7), copierOf(4, true, 4, 3, 5, 7, 7), 1},
		{"the last one", copierOf(4, true, 4, 0, 5, 6, 7), copierOf(4, true, 0, 4, 5, 6, 8), 2},
		{"one that Waits too", copierOf(4, true, 2, 2, 5, 6, 7), copierOf(4, true, 0, 2, 5, 7, 7), 1},
		{"past one that Waits alone", copierOf(4, true, 2, 5, 5, 6, 7), copierOf(4, true, 0, 7, 5, 7, 7), 1},
		{"the only block", copierOf(1, true, 1, 0, 0), copierOf(1, true, 0, 1, 1), 0},
		{"the last of eight", copierOf(1, true, 128, 0, 1, 2, 3, 4, 5, 6, 7, 8), copierOf(1, true, 0, 128, 1, 2, 3, 4, 5, 6, 7, 9), 7},
		{"up to MaxTurn", copierOf(4, true, 1, 0, top-1, 0), copierOf(4, true, 0, 1, top, 0), 0},
		{"where another one has MaxTurn", copierOf(4, true, 3, 0, 0, top), copierOf(4, true, 2, 1, 1, top), 0},
		{"where one that is not Dirty has MaxTurn", copierOf(4, true, 2, 1, top, 0), copierOf(4, true, 0, 3, top, 1), 1},
		{"where the First has MaxTurn", copierOf(4, true, 3, 0, top, 0), copierOf(4, true, 3, 0, top, 0), -1},
		{"where the First has MaxTurn and Waits", copierOf(4, true, 3, 1, top, 0), copierOf(4, true, 3, 1, top, 0), -1},
		{"where the only one that is Dirty has MaxTurn", copierOf(4, true, 2, 1, 0, top), copierOf(4, true, 2, 1, 0, top), -1},
		{"where none is Dirty", copierOf(4, true, 0, 3, 5, 6), copierOf(4, true, 0, 3, 5, 6), -1},
		{"where it is Clean", copierOf(4, true, 0, 0, 5, 6), copierOf(4, true, 0, 0, 5, 6), -1},
		{"where it is not Open", copierOf(4, false, 3, 0, 5, 6), copierOf(4, false, 3, 0, 5, 6), -1},
		{"where it is not Open and none is Dirty", copierOf(4, false, 0, 1, 5, 6), copierOf(4, false, 0, 1, 5, 6), -1},
	} {
		t.Run(one.what, func(t *testing.T) { wantNext(t, one.c, one.want, one.at) })
	}
}

// All that are Dirty go, each once, the least first, and then none; its Turn is 1 more, those of the others stay.
func TestNextTakesEachOnce(t *testing.T) {
	for n := 1; n <= 8; n++ {
		for dirty := range int64(1) << n {
			for _, waits := range []int64{0, 1, 1<<n - 1, dirty, 1<<n - 1 - dirty} {
				c := copierOf(9, true, dirty, waits, ramp(n, 0)...)
				want := cloneCopier(c)
				for at, in := range members(dirty) {
					if !in {
						continue
					}
					want.Dirty = withByHand(want.Dirty, int64(at), false)
					want.Waits = withByHand(want.Waits, int64(at), true)
					want.Turns[at]++
					wantNext(t, c, want, int64(at))
					c, _ = impl.Next(c)
				}
				if c.Dirty != 0 || c.Waits != setOf(union(dirty, waits)) {
					t.Errorf("%v is left of %d and %d", c, dirty, waits)
				}
				wantNext(t, c, c, -1)
			}
		}
	}
}

func union(a, b int64) [8]bool {
	has, more := members(a), members(b)
	for i := range has {
		has[i] = has[i] || more[i]
	}
	return has
}

func TestAckedWrittenOut(t *testing.T) {
	for _, one := range []struct {
		what         string
		dirty, waits int64
		at, turn     int64
		want         int64
	}{
		{"where it Waits", 0, 2, 1, 7, 0},
		{"the first one of all", 0, 7, 0, 3, 6},
		{"the last one of all", 0, 7, 2, impl.MaxTurn, 3},
		{"where it is Dirty too", 2, 3, 1, 7, 1},
		{"where it does not Wait", 0, 5, 1, 7, 5},
		{"where it is Dirty alone", 2, 5, 1, 7, 5},
		{"where none Waits", 7, 0, 1, 7, 0},
		{"with 1 less", 0, 7, 1, 6, 7},
		{"with 1 more", 0, 7, 1, 8, 7},
		{"with the Turn of another one", 0, 7, 1, 3, 7},
		{"with Turn 0", 0, 7, 1, 0, 7},
		{"with a Turn below 0", 0, 7, 1, -7, 7},
		{"with a Turn above MaxTurn", 0, 7, 2, impl.MaxTurn + 1, 7},
		{"one below 0", 0, 7, -1, 3, 7},
		{"one past the end", 0, 7, 3, impl.MaxTurn, 7},
		{"one past the end with 0", 0, 7, 3, 0, 7},
		{"one past the end of a set", 0, 7, 8, 0, 7},
	} {
		t.Run(one.what, func(t *testing.T) {
			for _, open := range eachFlag {
				c := copierOf(4, open, one.dirty, one.waits, 3, 7, impl.MaxTurn)
				wantAcked(t, c, one.at, one.turn, copierOf(4, open, one.dirty, one.want, 3, 7, impl.MaxTurn))
			}
		})
	}
}

// Turn 0 is a Turn as the others are.
func TestAckedWithTurnNought(t *testing.T) {
	wantAcked(t, copierOf(4, true, 0, 3, 0, 1), 0, 0, copierOf(4, true, 0, 2, 0, 1))
	wantAcked(t, copierOf(4, true, 0, 3, 0, 1), 1, 0, copierOf(4, true, 0, 3, 0, 1))
}

func TestAckedOfNoBlockOrNoTurn(t *testing.T) {
	for n := 1; n <= 8; n++ {
		for _, open := range eachFlag {
			c := copierOf(9, open, 1, 1<<n-1, ramp(n, 0)...)
			for _, at := range append([]int64{int64(n), int64(n) + 1}, notIndexes...) {
				for _, turn := range append([]int64{0, 1, 7, 8, 1000000000}, notTurns...) {
					wantAcked(t, c, at, turn, c)
				}
			}
			for at := range int64(n) {
				for _, turn := range append([]int64{at - 1, at + 1, at + 1<<32, 1000000000}, notTurns...) {
					wantAcked(t, c, at, turn, c)
				}
			}
		}
	}
}

func TestAgainWrittenOut(t *testing.T) {
	for _, one := range []struct {
		what         string
		dirty, waits int64
		want         int64
	}{
		{"none Waits and none is Dirty", 0, 0, 0},
		{"none Waits", 5, 0, 5},
		{"one Waits", 0, 2, 2},
		{"one Waits, others are Dirty", 5, 2, 7},
		{"some Wait, one of them Dirty", 1, 3, 3},
		{"all Wait", 0, 7, 7},
		{"all Wait, all are Dirty", 7, 7, 7},
	} {
		t.Run(one.what, func(t *testing.T) {
			for _, open := range eachFlag {
				c := copierOf(4, open, one.dirty, one.waits, 3, 7, impl.MaxTurn)
				want := copierOf(4, open, one.want, 0, 3, 7, impl.MaxTurn)
				wantAgain(t, c, want)
				wantAgain(t, want, want)
			}
		})
	}
}

// An answer to what went before Again does not clean: it goes once more, with another Turn.
func TestAckedAfterAgain(t *testing.T) {
	c := copierOf(4, true, 1, 0, 5, 6)
	c, _ = impl.Next(c)
	c = impl.Again(c)
	wantAcked(t, c, 0, 6, copierOf(4, true, 1, 0, 6, 6))
	c, _ = impl.Next(c)
	wantAcked(t, c, 0, 6, copierOf(4, true, 0, 1, 7, 6))
	c = impl.Acked(c, 0, 7)
	wantClean(t, c, true)
}

func TestCleanWrittenOut(t *testing.T) {
	for n := 1; n <= 8; n++ {
		for _, try := range rightTries {
			for _, turn := range rightTurns {
				c := copierOf(try, true, 0, 0, filled(n, turn)...)
				wantClean(t, c, true)
				shut := cloneCopier(c)
				shut.Open = false
				wantClean(t, shut, false)
				for at := range int64(n) {
					dirty, waits := cloneCopier(c), cloneCopier(c)
					dirty.Dirty, waits.Waits = 1<<at, 1<<at
					wantClean(t, dirty, false)
					wantClean(t, waits, false)
				}
			}
		}
		eachSets(n, func(open bool, dirty, waits int64) {
			wantClean(t, copierOf(9, open, dirty, waits, ramp(n, 0)...), open && dirty+waits == 0)
		})
	}
	wantClean(t, impl.Copier{}, false)
}

// Each two sets with each row of Turns of the edges for few blocks; each two sets for more.
func TestEachCopierByHand(t *testing.T) {
	for n := 1; n <= 6; n++ {
		eachSets(n, func(open bool, dirty, waits int64) {
			if n <= 2 {
				eachBlocks(n, rightTurns, func(turns []int64) {
					wantCopierByHand(t, copierOf(9, open, dirty, waits, turns...))
				})
			}
			wantCopierByHand(t, copierOf(9, open, dirty, waits, ramp(n, 0)...))
			wantCopierByHand(t, copierOf(100000, open, dirty, waits, ramp(n, impl.MaxTurn-int64(n)+1)...))
		})
	}
}

// thrownCopier is mostly right, often Open, with few that are Dirty or Wait, and Turns near the edges.
func thrownCopier(source *rand.Rand) impl.Copier {
	n := 1 + source.Intn(8)
	top := int64(1) << n
	c := impl.Copier{Try: 1 + source.Int63n(100000), Open: source.Intn(4) > 0, Dirty: source.Int63n(top) & source.Int63n(top), Waits: source.Int63n(top), Turns: make([]int64, n)}
	for at := range c.Turns {
		c.Turns[at] = []int64{0, 1, 2, 999999999, 1000000000, source.Int63n(1000000001)}[source.Intn(6)]
	}
	switch source.Intn(24) {
	case 0:
		c.Try = thrownNear(source, 0, 100000)
	case 1:
		c.Dirty = thrownNear(source, 0, top, 256)
	case 2:
		c.Waits = thrownNear(source, 0, top, 256)
	case 3:
		c.Turns[source.Intn(n)] = thrownNear(source, 0, 1000000000)
	case 4:
		c.Turns = make([]int64, source.Intn(11))
	case 5:
		c.Dirty, c.Waits = 0, 0
	}
	return c
}

func TestCopiersThrown(t *testing.T) {
	t.Parallel()
	source := rand.New(rand.NewSource(16))
	right, wrong, clean := 0, 0, 0
	for range 60000 {
		c := thrownCopier(source)
		switch {
		case cleanByHand(c):
			clean++
		case copierOkByHand(c):
			right++
		default:
			wrong++
		}
		wantCopierByHand(t, c)
		at, turn := thrownNear(source, 0, 3, 7), thrownNear(source, 1, impl.MaxTurn)
		wantMarked(t, c, at, markedByHand(c, at))
		wantAcked(t, c, at, turn, ackedByHand(c, at, turn))
	}
	if right < 1000 || wrong < 1000 || clean < 1000 {
		t.Errorf("%d right, %d wrong, %d Clean of what was thrown", right, wrong, clean)
	}
}

// A ledger tells of each block when it was Marked last (0: when it was made), when it went last and how often it did, and when that was Acked. It knows what was asked and which block Next told, and never looks into the Copier.
type ledger struct {
	now                 int
	marked, went, acked [8]int
	turn                [8]int64
}

// settled is what promise 13 wants of what is Clean: each block went after it was Marked, and was Acked after that with the Turn that it went with.
func (l ledger) settled(n int64) bool {
	for at := range n {
		if l.went[at] <= l.marked[at] || l.acked[at] <= l.went[at] {
			return false
		}
	}
	return true
}

// A copierRow is a Copier with the ledger of all that was asked of it.
type copierRow struct {
	c impl.Copier
	ledger
}

func newCopierRow(n int64) copierRow {
	c, _ := impl.NewCopier(n, 7)
	c.Open = true
	return copierRow{c: c}
}

func (r copierRow) next() copierRow {
	r.now++
	c, at := impl.Next(r.c)
	if r.c = c; at >= 0 {
		r.went[at] = r.now
		r.turn[at]++
	}
	return r
}

func (r copierRow) ack(at int64, turn int64) copierRow {
	r.now++
	r.c = impl.Acked(r.c, at, turn)
	if turn == r.turn[at] {
		r.acked[at] = r.now
	}
	return r
}

func (r copierRow) mark(at int64) copierRow {
	r.now++
	r.c = impl.Marked(r.c, at)
	r.marked[at] = r.now
	return r
}

func (r copierRow) again() copierRow {
	r.now++
	r.c = impl.Again(r.c)
	return r
}

// eachStep goes through all that can be asked next: of the answers those with the Turn that it went with last, the one ahead of that, and the one after it.
func (r copierRow) eachStep(see func(copierRow)) {
	see(r.next())
	see(r.again())
	for at := range int64(len(r.c.Turns)) {
		see(r.mark(at))
		for turn := max(0, r.turn[at]-1); turn <= r.turn[at]+1; turn++ {
			see(r.ack(at, turn))
		}
	}
}

// wantPromise wants promise 13, and that the Copier is right and has the Turns of the ledger; it tells whether it is Clean.
func (r copierRow) wantPromise(t *testing.T) bool {
	t.Helper()
	n := int64(len(r.c.Turns))
	if !impl.CopierOk(r.c) || n == 0 || !slices.Equal(r.c.Turns, r.turn[:n]) {
		t.Fatalf("%v of %v", r.c, r.ledger)
	}
	clean := impl.Clean(r.c)
	if clean && !r.settled(n) {
		t.Fatalf("%v is Clean: %v", r.c, r.ledger)
	}
	return clean
}

// cleanRow is one of which each block went once and was Acked.
func cleanRow(n int64) copierRow {
	r := newCopierRow(n)
	for at := range n {
		r = r.next().ack(at, 1)
	}
	return r
}

// cleanOfEachRow wants promise 13 all along each row of so many steps, and tells how often it was Clean.
func cleanOfEachRow(t *testing.T, r copierRow, steps int) int {
	t.Helper()
	clean := 0
	if r.wantPromise(t) {
		clean++
	}
	if steps > 0 {
		r.eachStep(func(next copierRow) { clean += cleanOfEachRow(t, next, steps-1) })
	}
	return clean
}

// Promise 13, over all rows up to a length, from a new one on and from one that is Clean.
func TestCleanHasBeenAckedSinceItWasMarked(t *testing.T) {
	for _, one := range []struct {
		from  copierRow
		steps int
	}{
		{newCopierRow(1), 7}, {newCopierRow(2), 6},
		{cleanRow(1), 7}, {cleanRow(2), 5}, {cleanRow(3), 4}, {cleanRow(4), 4}, {cleanRow(8), 3},
	} {
		if clean := cleanOfEachRow(t, one.from, one.steps); clean < 2 {
			t.Errorf("%d were Clean from %v on", clean, one.from)
		}
	}
}

// Promise 13, over long rows: what went is answered at once, late, twice or never, and is Marked in between.
func TestCleanInLongRows(t *testing.T) {
	source := rand.New(rand.NewSource(17))
	for n := int64(1); n <= 8; n++ {
		clean := 0
		for range 40 {
			r := newCopierRow(n)
			for range 2000 {
				at := source.Int63n(n)
				switch source.Intn(12) {
				case 0, 1, 2, 3, 4:
					r = r.next()
				case 5, 6, 7, 8, 9:
					r = r.ack(at, r.turn[at])
				case 10:
					r = r.ack(at, source.Int63n(r.turn[at]+2))
				default:
					if r = r.again(); source.Int63n(2*n) == 0 {
						r = r.mark(at)
					}
				}
				if r.wantPromise(t) {
					clean++
					r = r.mark(at)
					r.wantPromise(t)
				}
			}
		}
		if clean < 100 {
			t.Errorf("of %d blocks %d were Clean", n, clean)
		}
	}
}

// What was Marked after it went and before it was Acked is not Clean by that Acked, whichever block it is.
func TestMarkedOnTheWayIsNotClean(t *testing.T) {
	for n := int64(1); n <= 8; n++ {
		for marked := range n {
			c := newCopierRow(n).c
			for range n {
				c, _ = impl.Next(c)
			}
			c = impl.Marked(c, marked)
			for at := range n {
				wantClean(t, c, false)
				c = impl.Acked(c, at, 1)
			}
			wantClean(t, c, false)
			turns := filled(int(n), 1)
			turns[marked] = 2
			wantNext(t, c, copierOf(7, true, 0, 1<<marked, turns...), marked)
			c, _ = impl.Next(c)
			c = impl.Acked(c, marked, 1)
			wantClean(t, c, false)
			c = impl.Acked(c, marked, 2)
			wantClean(t, c, true)
		}
	}
}

// A copierCall is a call with its other arguments given; what has no Copier to answer answers the zero one.
type copierCall struct {
	name string
	call func(impl.Copier) impl.Copier
}

// copierCalls are calls at each place, with Turns that are there and that are not.
func copierCalls() []copierCall {
	calls := []copierCall{
		{"CopierOk", func(c impl.Copier) impl.Copier { impl.CopierOk(c); return impl.Copier{} }},
		{"Clean", func(c impl.Copier) impl.Copier { impl.Clean(c); return impl.Copier{} }},
		{"Again", impl.Again},
		{"Next", func(c impl.Copier) impl.Copier {
			got, _ := impl.Next(c)
			return got
		}},
	}
	for _, at := range []int64{-1, 0, 1, 2, 5, 7, 8, 9, math.MaxInt64, math.MinInt64} {
		calls = append(calls, copierCall{fmt.Sprint("Marked at ", at), func(c impl.Copier) impl.Copier { return impl.Marked(c, at) }})
		for _, turn := range []int64{-1, 0, at, at + 1, at + 5, 1000000000, 1000000001} {
			calls = append(calls, copierCall{fmt.Sprintf("Acked at %d with %d", at, turn), func(c impl.Copier) impl.Copier { return impl.Acked(c, at, turn) }})
		}
	}
	return calls
}

// copiersToLeaveAlone are those that are done something to, those that stay as they are, and those that are not right.
func copiersToLeaveAlone() []impl.Copier {
	list := []impl.Copier{{}, {Turns: []int64{}}}
	for n := 1; n <= 8; n++ {
		full := int64(1)<<n - 1
		for _, open := range eachFlag {
			for _, sets := range [][2]int64{{0, 0}, {full, 0}, {0, full}, {full, full}, {1 << (n - 1), 1}} {
				list = append(list, copierOf(9, open, sets[0], sets[1], ramp(n, 0)...), copierOf(9, open, sets[0], sets[1], filled(n, impl.MaxTurn)...))
			}
		}
	}
	for k, b := range copierBreaches() {
		if k%11 == 0 {
			list = append(list, b.broken)
		}
	}
	return list
}

// Promise 21: nothing is written into an argument or behind it, and none of it is handed out.
func TestCopierLeavesItsArgument(t *testing.T) {
	calls := copierCalls()
	for _, c := range copiersToLeaveAlone() {
		for _, one := range calls {
			sameArgs(t, one.name, [][]int64{c.Turns}, func(in [][]int64) {
				given := c
				given.Turns = in[0]
				spoil(one.call(given).Turns)
			})
		}
	}
}

// An answer that was written over does not come back with the next one.
func TestCopierAnswersAreNewMemory(t *testing.T) {
	calls := copierCalls()
	for _, c := range copiersToLeaveAlone() {
		for _, one := range calls {
			first := one.call(c)
			want := cloneCopier(first)
			second := one.call(c)
			spoil(first.Turns)
			if !sameCopier(second, want) || !sameCopier(one.call(c), want) {
				t.Errorf("%s of %v: an answer is changed as another one is written over", one.name, c)
			}
		}
	}
}

// The spare room behind the Turns tells nothing.
func TestTurnsWithRoomBehindThem(t *testing.T) {
	whole := ramp(12, 0)
	for n := range 12 {
		for _, try := range []int64{0, 9} {
			for _, set := range []int64{0, 1, 3, 7, 255} {
				for _, open := range eachFlag {
					c := copierOf(try, open, set, set, whole[:n]...)
					wantCopierByHand(t, c)
					wantMarked(t, c, int64(n)+1, markedByHand(c, int64(n)+1))
					wantAcked(t, c, int64(n), int64(n), ackedByHand(c, int64(n), int64(n)))
				}
			}
		}
	}
}
