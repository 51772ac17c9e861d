package tests

import (
	"fmt"
	"math"
	"math/rand"
	"slices"
	"testing"

	"loop.example/g00354/impl"
)

func sinkOf(try int64, turns ...int64) impl.Sink { return impl.Sink{Try: try, Turns: turns} }

func cloneSink(s impl.Sink) impl.Sink { return sinkOf(s.Try, slices.Clone(s.Turns)...) }

func sameSink(a, b impl.Sink) bool { return a.Try == b.Try && slices.Equal(a.Turns, b.Turns) }

func sinkOkByHand(s impl.Sink) bool {
	n := len(s.Turns)
	if s.Try == 0 {
		return n == 0
	}
	if s.Try < 0 || s.Try > 100000 || n < 1 || n > 8 {
		return false
	}
	return slices.Min(s.Turns) >= 0 && slices.Max(s.Turns) <= 1000000000
}

func fitsByHand(s impl.Sink, try, at, turn int64) bool {
	if !sinkOkByHand(s) || try < 1 || s.Try != try {
		return false
	}
	for place, last := range s.Turns {
		if int64(place) == at {
			return last < turn
		}
	}
	return false
}

func receivedByHand(s impl.Sink, try, at, turn int64) (impl.Sink, bool) {
	if !sinkOkByHand(s) {
		return impl.Sink{}, false
	}
	s = cloneSink(s)
	if !fitsByHand(s, try, at, turn) || turn > 1000000000 {
		return s, false
	}
	s.Turns[at] = turn
	return s, true
}

func wantFits(t *testing.T, s impl.Sink, try, at, turn int64, want bool) {
	t.Helper()
	before := cloneSink(s)
	if got := impl.Fits(s, try, at, turn); got != want {
		t.Errorf("Fits(%v, %d, %d, %d) = %v", before, try, at, turn, got)
	}
	if !sameSink(s, before) {
		t.Errorf("Fits(%v, %d, %d, %d): it is %v now", before, try, at, turn, s)
	}
}

// wantReceived wants the argument as it was, too.
func wantReceived(t *testing.T, s impl.Sink, try, at, turn int64, want impl.Sink, wantIs bool) {
	t.Helper()
	before := cloneSink(s)
	if got, is := impl.Received(s, try, at, turn); is != wantIs || !sameSink(got, want) {
		t.Errorf("Received(%v, %d, %d, %d) = %v, %v, not %v, %v", before, try, at, turn, got, is, want, wantIs)
	}
	if !sameSink(s, before) {
		t.Errorf("Received(%v, %d, %d, %d): it is %v now", before, try, at, turn, s)
	}
}

// wantRefused wants what does not Fit as it is.
func wantRefused(t *testing.T, s impl.Sink, try, at, turn int64) {
	t.Helper()
	wantFits(t, s, try, at, turn, false)
	wantReceived(t, s, try, at, turn, s, false)
}

func wantLetterByHand(t *testing.T, s impl.Sink, try, at, turn int64) {
	t.Helper()
	wantFits(t, s, try, at, turn, fitsByHand(s, try, at, turn))
	after, is := receivedByHand(s, try, at, turn)
	wantReceived(t, s, try, at, turn, after, is)
}

// wantSinkByHand asks at each place, and beside it, with Turns about the one that is there, and Tries about that of the Sink.
func wantSinkByHand(t *testing.T, s impl.Sink) {
	t.Helper()
	if got := impl.SinkOk(s); got != sinkOkByHand(s) {
		t.Errorf("SinkOk of %v = %v", s, got)
	}
	n := int64(len(s.Turns))
	for at := int64(-1); at <= n; at++ {
		last := int64(0)
		if at >= 0 && at < n {
			last = s.Turns[at]
		}
		for _, try := range []int64{s.Try - 1, s.Try, s.Try + 1} {
			for _, turn := range []int64{last - 1, last, last + 1, impl.MaxTurn, impl.MaxTurn + 1} {
				wantLetterByHand(t, s, try, at, turn)
			}
		}
	}
}

// wantNoSink wants what a Sink that is not right is answered by each function.
func wantNoSink(t *testing.T, s impl.Sink) {
	t.Helper()
	if impl.SinkOk(s) {
		t.Errorf("SinkOk of %v", s)
	}
	for _, try := range []int64{s.Try, 0, 1, 9, 100000} {
		for _, at := range []int64{-1, 0, 1, 7, 8, math.MaxInt64, math.MinInt64} {
			for _, turn := range []int64{-1, 0, 1, 100, 1000000000, 1000000001, math.MaxInt64} {
				wantFits(t, s, try, at, turn, false)
				wantReceived(t, s, try, at, turn, impl.Sink{}, false)
			}
		}
	}
}

func TestSinkOkWrittenOut(t *testing.T) {
	const top = 1000000000
	for _, one := range []struct {
		s    impl.Sink
		want bool
	}{
		{sinkOf(0), true},
		{sinkOf(1, 0), true},
		{sinkOf(1, top), true},
		{sinkOf(1, 0, 0, 0, 0, 0, 0, 0, 0), true},
		{sinkOf(1, top, top, top, top, top, top, top, top), true},
		{sinkOf(100000, 0), true},
		{sinkOf(100000, top), true},
		{sinkOf(100000, 0, 0, 0, 0, 0, 0, 0, 0), true},
		{sinkOf(100000, top, top, top, top, top, top, top, top), true},
		{sinkOf(7, 3, 0, top), true},
		{sinkOf(-1), false},
		{sinkOf(-1, 0), false},
		{sinkOf(100001), false},
		{sinkOf(100001, 0), false},
		{sinkOf(0, 0), false},
		{sinkOf(0, 5, 6), false},
		{sinkOf(1), false},
		{sinkOf(100000), false},
		{sinkOf(7, 0, 0, 0, 0, 0, 0, 0, 0, 0), false},
		{sinkOf(7, -1), false},
		{sinkOf(7, top+1), false},
		{sinkOf(7, 0, -1), false},
		{sinkOf(7, 0, top+1), false},
		{sinkOf(7, 0, 0, 0, 0, 0, 0, 0, -1), false},
		{sinkOf(7, 0, 0, 0, 0, 0, 0, 0, top+1), false},
	} {
		if got := impl.SinkOk(one.s); got != one.want {
			t.Errorf("SinkOk of %v = %v", one.s, got)
		}
	}
}

// At its edges: the zero one, and each count with the least and the greatest Try and with each Turn of the edges at each place.
func TestSinkOk(t *testing.T) {
	right := []impl.Sink{{}, {Turns: []int64{}}, {Turns: make([]int64, 0, 9)}}
	for n := 1; n <= 8; n++ {
		for _, try := range rightTries {
			for _, turn := range rightTurns {
				right = append(right, sinkOf(try, filled(n, turn)...))
				for at := range n {
					s := sinkOf(try, ramp(n, 5)...)
					s.Turns[at] = turn
					right = append(right, s)
				}
			}
		}
	}
	for _, s := range right {
		if !impl.SinkOk(s) {
			t.Errorf("%v is not right", s)
		}
	}
}

func TestNewSinkWrittenOut(t *testing.T) {
	for _, one := range []struct {
		n, try int64
		want   impl.Sink
	}{
		{1, 1, sinkOf(1, 0)},
		{1, 100000, sinkOf(100000, 0)},
		{2, 7, sinkOf(7, 0, 0)},
		{8, 1, sinkOf(1, 0, 0, 0, 0, 0, 0, 0, 0)},
		{8, 100000, sinkOf(100000, 0, 0, 0, 0, 0, 0, 0, 0)},
	} {
		if got, is := impl.NewSink(one.n, one.try); !is || !sameSink(got, one.want) {
			t.Errorf("NewSink(%d, %d) = %v, %v", one.n, one.try, got, is)
		}
	}
}

// A new one is right, and Turn 1 Fits at each of its places, but Turn 0 at none.
func TestNewSink(t *testing.T) {
	for n := int64(1); n <= 8; n++ {
		for _, try := range rightTries {
			want := sinkOf(try, make([]int64, n)...)
			s, is := impl.NewSink(n, try)
			if !is || !sameSink(s, want) || !impl.SinkOk(s) {
				t.Errorf("NewSink(%d, %d) = %v, %v", n, try, s, is)
			}
			for at := range n {
				wantFits(t, s, try, at, 1, true)
				wantRefused(t, s, try, at, 0)
			}
			spoil(s.Turns)
			if again, _ := impl.NewSink(n, try); !sameSink(again, want) {
				t.Errorf("NewSink(%d, %d) = %v after its answer was written over", n, try, again)
			}
		}
	}
}

func TestNewSinkOutOfRange(t *testing.T) {
	wrong := func(n, try int64) {
		if s, is := impl.NewSink(n, try); is || !sameSink(s, impl.Sink{}) {
			t.Errorf("NewSink(%d, %d) = %v, %v", n, try, s, is)
		}
	}
	noTries := append([]int64{0}, notTries...)
	for _, n := range append([]int64{0}, notCounts...) {
		for _, try := range slices.Concat(rightTries, noTries) {
			wrong(n, try)
		}
	}
	for n := int64(1); n <= 8; n++ {
		for _, try := range noTries {
			wrong(n, try)
		}
	}
}

func TestFitsAndReceivedWrittenOut(t *testing.T) {
	const top = impl.MaxTurn
	for _, one := range []struct {
		what          string
		try, at, turn int64
		fits          bool
		want          []int64
	}{
		{"the first time", 4, 0, 1, true, []int64{1, 7, top}},
		{"1 more", 4, 1, 8, true, []int64{0, 8, top}},
		{"many more", 4, 1, 900, true, []int64{0, 900, top}},
		{"MaxTurn", 4, 0, top, true, []int64{top, 7, top}},
		{"1 less than MaxTurn", 4, 1, top - 1, true, []int64{0, top - 1, top}},
		{"above MaxTurn", 4, 0, top + 1, true, nil},
		{"above MaxTurn where it is MaxTurn", 4, 2, top + 1, true, nil},
		{"the same", 4, 1, 7, false, nil},
		{"the same, 0", 4, 0, 0, false, nil},
		{"the same, MaxTurn", 4, 2, top, false, nil},
		{"1 less", 4, 1, 6, false, nil},
		{"1 less than MaxTurn where it is that", 4, 2, top - 1, false, nil},
		{"below 0", 4, 0, -1, false, nil},
		{"an older try", 3, 1, 8, false, nil},
		{"a newer try", 5, 1, 8, false, nil},
		{"try 0", 0, 1, 8, false, nil},
		{"a try below 0", -4, 1, 8, false, nil},
		{"a place below 0", 4, -1, 8, false, nil},
		{"one past the end", 4, 3, 8, false, nil},
		{"past the end of eight", 4, 8, 8, false, nil},
	} {
		t.Run(one.what, func(t *testing.T) {
			s := sinkOf(4, 0, 7, top)
			wantFits(t, s, one.try, one.at, one.turn, one.fits)
			want := s
			if one.want != nil {
				want = sinkOf(4, one.want...)
			}
			wantReceived(t, s, one.try, one.at, one.turn, want, one.want != nil)
		})
	}
}

// At the edges of the Try: the least and the greatest one are Tries as the others are.
func TestFitsItsTryAlone(t *testing.T) {
	for n := 1; n <= 8; n++ {
		for _, try := range rightTries {
			s := sinkOf(try, ramp(n, 5)...)
			for at := range int64(n) {
				want := cloneSink(s)
				want.Turns[at] = 50
				wantFits(t, s, try, at, 50, true)
				wantReceived(t, s, try, at, 50, want, true)
				for _, other := range slices.Concat([]int64{0, try - 1, try + 1, -try, try + 1<<32}, rightTries, notTries) {
					if other != try {
						wantRefused(t, s, other, at, 50)
					}
				}
			}
		}
	}
}

// No place below 0 or past the end has anything that is newer, whatever comes.
func TestFitsNoOtherPlace(t *testing.T) {
	for n := 1; n <= 8; n++ {
		s := sinkOf(9, make([]int64, n)...)
		for _, at := range slices.Concat([]int64{int64(n), int64(n) + 1, -int64(n), int64(n) + 1<<32}, notIndexes) {
			for _, turn := range slices.Concat(rightTurns, notTurns) {
				wantRefused(t, s, 9, at, turn)
			}
		}
	}
}

// At each place, against each Turn of the edges, each Turn of the edges and each that is none.
func TestFitsWhatIsNewerAlone(t *testing.T) {
	for n := 1; n <= 8; n++ {
		for at := range int64(n) {
			for _, last := range rightTurns {
				s := sinkOf(9, ramp(n, 50)...)
				s.Turns[at] = last
				for _, turn := range slices.Concat(rightTurns, notTurns) {
					wantFits(t, s, 9, at, turn, last < turn)
					want := cloneSink(s)
					is := last < turn && turn <= 1000000000
					if is {
						want.Turns[at] = turn
					}
					wantReceived(t, s, 9, at, turn, want, is)
				}
			}
		}
	}
}

// With Try 0 there is nothing to receive, and try 0 is not of it.
func TestOfTheZeroSink(t *testing.T) {
	for _, s := range []impl.Sink{{}, {Turns: []int64{}}, {Turns: ramp(9, 1)[:0]}} {
		if !impl.SinkOk(s) {
			t.Errorf("%v is not right", s)
		}
		for _, try := range slices.Concat([]int64{0}, rightTries, notTries) {
			for _, at := range append([]int64{0, 1, 7}, notIndexes...) {
				for _, turn := range slices.Concat(rightTurns, notTurns) {
					wantRefused(t, s, try, at, turn)
				}
			}
		}
	}
}

// sinkBreaches are Sinks with one thing about them that is not right.
func sinkBreaches() []impl.Sink {
	list := []impl.Sink{}
	for n := 1; n <= 8; n++ {
		for _, try := range notTries {
			list = append(list, sinkOf(try, make([]int64, n)...), sinkOf(try, ramp(n, 5)...))
		}
		for at := range n {
			for _, turn := range notTurns {
				s := sinkOf(9, ramp(n, 5)...)
				s.Turns[at] = turn
				list = append(list, s)
			}
		}
		list = append(list, sinkOf(0, make([]int64, n)...), sinkOf(0, ramp(n, 5)...))
	}
	for _, n := range []int{9, 10, 16, 255, 256, 257, 264, 1000} {
		list = append(list, sinkOf(9, make([]int64, n)...), sinkOf(9, ramp(n, 5)...), sinkOf(0, make([]int64, n)...))
	}
	for _, try := range slices.Concat(rightTries, notTries) {
		list = append(list, sinkOf(try), impl.Sink{Try: try, Turns: ramp(9, 5)[:0]})
	}
	return list
}

func TestOfNoSink(t *testing.T) {
	for _, s := range sinkBreaches() {
		if sinkOkByHand(s) {
			t.Fatal(s)
		}
		wantNoSink(t, s)
	}
}

// Each row of Turns of the edges, right ones and others, for few blocks, and rows near both ends for more.
func TestEachSinkByHand(t *testing.T) {
	for _, try := range []int64{-1, 0, 1, 2, 100000, 100001} {
		wantSinkByHand(t, sinkOf(try))
		for n := 1; n <= 9; n++ {
			if n <= 3 {
				eachBlocks(n, []int64{-1, 0, 1, 999999999, 1000000000, 1000000001}, func(turns []int64) {
					wantSinkByHand(t, sinkOf(try, turns...))
				})
			}
			wantSinkByHand(t, sinkOf(try, ramp(n, 0)...))
			wantSinkByHand(t, sinkOf(try, ramp(n, impl.MaxTurn-int64(n)+1)...))
		}
	}
}

// thrownSink is mostly right, with Turns near the edges.
func thrownSink(source *rand.Rand) impl.Sink {
	n := 1 + source.Intn(8)
	s := impl.Sink{Try: 1 + source.Int63n(100000), Turns: make([]int64, n)}
	for at := range s.Turns {
		s.Turns[at] = []int64{0, 1, 2, 999999999, 1000000000, source.Int63n(1000000001)}[source.Intn(6)]
	}
	switch source.Intn(12) {
	case 0:
		s.Try = thrownNear(source, 0, 100000)
	case 1:
		s.Turns[source.Intn(n)] = thrownNear(source, 0, 1000000000)
	case 2:
		s.Turns = make([]int64, source.Intn(11))
	}
	return s
}

func TestSinksThrown(t *testing.T) {
	source := rand.New(rand.NewSource(18))
	right, wrong, received := 0, 0, 0
	for range 15000 {
		s := thrownSink(source)
		if sinkOkByHand(s) {
			right++
		} else {
			wrong++
		}
		wantSinkByHand(t, s)
		try, at, turn := s.Try, thrownNear(source, 0, 3, 7), thrownNear(source, 1, impl.MaxTurn)
		if source.Intn(8) == 0 {
			try = thrownNear(source, s.Try, 0, impl.MaxEpoch)
		}
		wantLetterByHand(t, s, try, at, turn)
		if _, is := receivedByHand(s, try, at, turn); is {
			received++
		}
	}
	if right < 1000 || wrong < 1000 || received < 1000 {
		t.Errorf("%d right, %d wrong, %d Received of what was thrown", right, wrong, received)
	}
}

// A letter is what is asked of a Sink.
type letter struct{ try, at, turn int64 }

// A sinkRow is a Sink with all that it has Received so far, in order.
type sinkRow struct {
	s   impl.Sink
	got []letter
}

func newSinkRow(n, try int64) sinkRow {
	s, _ := impl.NewSink(n, try)
	return sinkRow{s: s}
}

// hear wants promise 14 of one more letter: no Turn is less than it was, none but that of the place has changed, and what comes is neither what was Received already nor older than that.
func (r sinkRow) hear(t *testing.T, l letter) sinkRow {
	t.Helper()
	after, is := impl.Received(r.s, l.try, l.at, l.turn)
	if after.Try != r.s.Try || len(after.Turns) != len(r.s.Turns) {
		t.Fatalf("%v of %v after %v", after, r.s, l)
	}
	for at, turn := range after.Turns {
		if turn < r.s.Turns[at] {
			t.Fatalf("%v of %v after %v: a Turn goes back", after, r.s, l)
		}
		if turn != r.s.Turns[at] && (int64(at) != l.at || !is) {
			t.Fatalf("%v of %v after %v, %v: another Turn has changed", after, r.s, l, is)
		}
	}
	if is {
		r.wantNewer(t, l)
		r.got = append(slices.Clip(r.got), l)
	}
	r.s = after
	return r
}

func (r sinkRow) wantNewer(t *testing.T, l letter) {
	t.Helper()
	for _, before := range r.got {
		if before.at == l.at && l.turn <= before.turn {
			t.Fatalf("%v Received %v after %v", r.s, l, r.got)
		}
	}
}

// wantNoneAgain asks for all that was Received once more, and for what is older at those places.
func (r sinkRow) wantNoneAgain(t *testing.T) {
	t.Helper()
	for _, l := range r.got {
		for _, turn := range []int64{l.turn, l.turn - 1, l.turn / 2, 1, 0, -1} {
			wantRefused(t, r.s, l.try, l.at, turn)
		}
	}
}

// receivedOfEachRow wants promise 14 all along each row of so many of these letters, and tells how many were Received.
func receivedOfEachRow(t *testing.T, r sinkRow, letters []letter, steps int) int {
	t.Helper()
	r.wantNoneAgain(t)
	if steps == 0 {
		return 0
	}
	received := 0
	for _, l := range letters {
		next := r.hear(t, l)
		received += len(next.got) - len(r.got)
		received += receivedOfEachRow(t, next, letters, steps-1)
	}
	return received
}

func lettersOf(tries, places, turns []int64) []letter {
	list := []letter{}
	for _, try := range tries {
		for _, at := range places {
			for _, turn := range turns {
				list = append(list, letter{try, at, turn})
			}
		}
	}
	return list
}

// Promise 14, over all rows up to a length: few letters of the Sink's own Try far, letters that are out of range a little way.
func TestTurnsNeverGoBack(t *testing.T) {
	near := lettersOf([]int64{7}, []int64{0, 1}, []int64{1, 2, 3, impl.MaxTurn})
	far := lettersOf([]int64{0, 6, 7, 100001}, []int64{-1, 0, 1, 2, 8}, []int64{-1, 0, 1, 5, impl.MaxTurn, impl.MaxTurn + 1})
	for _, one := range []struct {
		n       int64
		letters []letter
		steps   int
	}{
		{1, near, 5}, {2, near, 5}, {1, far, 2}, {2, far, 2}, {8, far, 2},
	} {
		if received := receivedOfEachRow(t, newSinkRow(one.n, 7), one.letters, one.steps); received < 100 {
			t.Errorf("%d were Received of %d blocks", received, one.n)
		}
	}
}

// thrownLetter is mostly of the Try, at a place, and about the Turn that is there; else it is out of range, or anything at all.
func thrownLetter(source *rand.Rand, s impl.Sink) letter {
	n := int64(len(s.Turns))
	at := source.Int63n(n)
	l := letter{s.Try, at, s.Turns[at] + source.Int63n(7) - 3}
	switch source.Intn(10) {
	case 0:
		l.try = thrownNear(source, s.Try, 0, 1, impl.MaxEpoch)
	case 1:
		l.at = thrownNear(source, 0, n, 8)
	case 2:
		l.turn = source.Int63n(s.Turns[at] + 1)
	case 3:
		if source.Intn(50) == 0 {
			l.turn = thrownNear(source, impl.MaxTurn, s.Turns[at]+1000000)
		}
	}
	return l
}

// Promise 14, over long rows of 1 to 8 blocks: letters come in order, late, twice, of other Tries and of places and Turns that are none.
func TestTurnsNeverGoBackInLongRows(t *testing.T) {
	source := rand.New(rand.NewSource(19))
	for n := int64(1); n <= 8; n++ {
		for _, try := range rightTries {
			received, refused := 0, 0
			for range 10 {
				r := newSinkRow(n, try)
				for range 200 {
					l := thrownLetter(source, r.s)
					want, is := receivedByHand(r.s, l.try, l.at, l.turn)
					before := len(r.got)
					r = r.hear(t, l)
					if (len(r.got) > before) != is || !sameSink(r.s, want) {
						t.Fatalf("%v of %v, not %v", r.s, l, want)
					}
					if is {
						received++
					} else {
						refused++
					}
				}
				r.wantNoneAgain(t)
			}
			if received < 100 || refused < 100 {
				t.Errorf("of %d blocks %d were Received, %d refused", n, received, refused)
			}
		}
	}
}

// What comes in any order leaves the newest of each place: it is as if the older ones had never come.
func TestTheNewestIsLeft(t *testing.T) {
	source := rand.New(rand.NewSource(20))
	for n := int64(1); n <= 8; n++ {
		for range 50 {
			s, _ := impl.NewSink(n, 7)
			newest := make([]int64, n)
			for range 60 {
				at, turn := source.Int63n(n), 1+source.Int63n(100)
				newest[at] = max(newest[at], turn)
				s, _ = impl.Received(s, 7, at, turn)
			}
			if !sameSink(s, sinkOf(7, newest...)) {
				t.Errorf("%v is left, not %v", s, newest)
			}
		}
	}
}

// A sinkCall is a call with its other arguments given; what has no Sink to answer answers the zero one.
type sinkCall struct {
	name string
	call func(impl.Sink) impl.Sink
}

// sinkCalls are calls of Tries, at places and with Turns that are there and that are not.
func sinkCalls() []sinkCall {
	calls := []sinkCall{{"SinkOk", func(s impl.Sink) impl.Sink { impl.SinkOk(s); return impl.Sink{} }}}
	for _, l := range lettersOf([]int64{0, 8, 9}, []int64{-1, 0, 1, 5, 7, 8, math.MaxInt64, math.MinInt64}, []int64{-1, 0, 3, 100, 1000000000, 1000000001}) {
		calls = append(calls,
			sinkCall{fmt.Sprint("Fits ", l), func(s impl.Sink) impl.Sink { impl.Fits(s, l.try, l.at, l.turn); return impl.Sink{} }},
			sinkCall{fmt.Sprint("Received ", l), func(s impl.Sink) impl.Sink {
				got, _ := impl.Received(s, l.try, l.at, l.turn)
				return got
			}})
	}
	return calls
}

// sinksToLeaveAlone are those that Receive something, those that stay as they are, and those that are not right.
func sinksToLeaveAlone() []impl.Sink {
	list := []impl.Sink{{}, {Turns: []int64{}}}
	for n := 1; n <= 8; n++ {
		list = append(list, sinkOf(9, make([]int64, n)...), sinkOf(9, ramp(n, 0)...), sinkOf(9, filled(n, impl.MaxTurn)...), sinkOf(100000, ramp(n, 0)...))
	}
	for k, s := range sinkBreaches() {
		if k%7 == 0 {
			list = append(list, s)
		}
	}
	return list
}

// Promise 21: nothing is written into an argument or behind it, and none of it is handed out.
func TestSinkLeavesItsArgument(t *testing.T) {
	calls := sinkCalls()
	for _, s := range sinksToLeaveAlone() {
		for _, one := range calls {
			sameArgs(t, one.name, [][]int64{s.Turns}, func(in [][]int64) {
				spoil(one.call(impl.Sink{Try: s.Try, Turns: in[0]}).Turns)
			})
		}
	}
}

// An answer that was written over does not come back with the next one.
func TestSinkAnswersAreNewMemory(t *testing.T) {
	calls := sinkCalls()
	for _, s := range sinksToLeaveAlone() {
		for _, one := range calls {
			first := one.call(s)
			want := cloneSink(first)
			second := one.call(s)
			spoil(first.Turns)
			if !sameSink(second, want) || !sameSink(one.call(s), want) {
				t.Errorf("%s of %v: an answer is changed as another one is written over", one.name, s)
			}
		}
	}
}

// The spare room behind the Turns tells nothing: what would Fit there is no block.
func TestSinkWithRoomBehindItsTurns(t *testing.T) {
	whole := ramp(12, 0)
	for n := range 12 {
		for _, try := range []int64{0, 9} {
			s := impl.Sink{Try: try, Turns: whole[:n]}
			wantSinkByHand(t, s)
			for at := int64(n); at < 12; at++ {
				wantLetterByHand(t, s, try, at, at+1)
			}
		}
	}
}

// Promise 21: each answers at every argument, with numbers from one end of their range to the other, and no Turns or any.
func TestSinkAnswersAtEveryArgument(t *testing.T) {
	ends := []int64{math.MinInt64, math.MinInt64 + 1, -1 << 32, -1, 0, 1, 7, 8, 9, 100000, 100001, 1000000000, 1000000001, 1 << 32, math.MaxInt64 - 1, math.MaxInt64}
	for _, a := range ends {
		for _, b := range ends {
			s, is := impl.NewSink(a, b)
			if fine := a >= 1 && a <= 8 && b >= 1 && b <= 100000; is != fine || fine != (len(s.Turns) > 0) {
				t.Errorf("NewSink(%d, %d) = %v, %v", a, b, s, is)
			}
			for _, s := range []impl.Sink{sinkOf(a), sinkOf(a, b), sinkOf(a, 0, b), sinkOf(9, a, b)} {
				for _, at := range ends {
					for _, turn := range ends {
						wantLetterByHand(t, s, a, at, turn)
						wantLetterByHand(t, s, 9, at, turn)
					}
				}
			}
		}
	}
}
