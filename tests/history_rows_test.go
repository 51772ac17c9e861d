package tests

import (
	"fmt"
	"math/rand"
	"runtime"
	"slices"
	"sync"
	"testing"
	"time"

	"loop.example/g00354/impl"
)

// A historyRow is a pair with what was done to it from a new one on, and the one store that there would be if it were one house.
type historyRow struct {
	p    impl.Pair
	s    impl.Store
	acts []impl.Act
	did  map[string]int
}

func newHistoryRow(blocks int64, did map[string]int) *historyRow {
	p, _ := impl.NewPair(blocks)
	return &historyRow{p: p, s: newStoreByHand(blocks), did: did}
}

func (r *historyRow) fails(t *testing.T, what string, before impl.Pair) {
	t.Helper()
	t.Fatalf("%s: act %d of %+v, from\n%s\nto\n%s\nwhere there is %v", what, len(r.acts), r.acts[max(0, len(r.acts)-20):], showPair(before), showPair(r.p), r.s)
}

// does wants promise 18 of one act, and goes on from there.
func (r *historyRow) does(t *testing.T, a impl.Act) (done bool) {
	t.Helper()
	before := r.p
	r.p, _, done = impl.Happen(before, a)
	r.acts = append(r.acts, a)
	for _, e := range r.p.Events[len(before.Events):] {
		after, answer := heardByStore(r.s, e)
		if answer != e.Answer {
			r.fails(t, fmt.Sprintf("the one house tells %v of %+v", answer, e), before)
		}
		if r.s = after; e.Kind == impl.EvCmd {
			r.did[fmt.Sprint("Status ", answer.Status)]++
		}
	}
	r.wantAgreed(t, before)
	r.count(before, a, done)
	return done
}

func (r *historyRow) wantAgreed(t *testing.T, before impl.Pair) {
	t.Helper()
	replayed, same := impl.Replayed(int64(len(r.p.Nodes[0].Disk.Now)), r.p.Events)
	owned := impl.Owned(r.p)
	want, found := keeperByHand(r.p)
	switch {
	case !impl.Agreed(r.p):
		r.fails(t, "it is not Agreed", before)
	case !same || !sameStore(replayed, r.s):
		r.fails(t, fmt.Sprintf("Replayed is %v, %v", replayed, same), before)
	case !sameStore(owned, want) || found && !impl.Alike(owned, replayed):
		r.fails(t, fmt.Sprintf("Owned is %v, Replayed %v", owned, replayed), before)
	}
}

func (r *historyRow) count(before impl.Pair, a impl.Act, done bool) {
	if !between(a.Kind, 1, 7) {
		return
	}
	r.did[fmt.Sprint("kind ", a.Kind, ": ", done)]++
	if c, code := impl.ReadCmd(a.Bytes); done && a.Kind == impl.AcAsk && code == impl.CdOk {
		r.did[fmt.Sprint("Op ", c.Op)]++
	}
	for k, n := range r.p.Nodes {
		was := before.Nodes[k]
		switch {
		case was.Up && !n.Up && a.Kind == impl.AcFall:
			r.did[fmt.Sprint("fell, of State ", was.Record.State)]++
		case was.Up && !n.Up:
			r.did[fmt.Sprint("fell as it noted, of State ", was.Record.State)]++
		case was.Record.State == impl.StOther && n.Record.State == impl.StOwner:
			r.did[fmt.Sprint("moved to ", k)]++
		case was.Record.State != n.Record.State:
			r.did[fmt.Sprintf("from %d to %d", was.Record.State, n.Record.State)]++
		}
	}
	if done && before.Nodes[0].Copier.Waits+before.Nodes[1].Copier.Waits > 0 && len(r.p.Events) > len(before.Events) && a.Kind == impl.AcAsk {
		r.did["asked as it is copied"]++
	}
}

// thrownHistoryMood asks more and goes wrong less than thrownMood, so that a row of 100 acts comes somewhere.
func thrownHistoryMood(source *rand.Rand) mood {
	of := func(list ...int) int { return list[source.Intn(len(list))] }
	return mood{asks: of(4, 10, 20, 40), falls: of(0, 0, 1, 5), loses: of(0, 0, 3, 10), late: of(0, 5, 40), torn: of(0, 1, 10)}
}

// inCharge is the house that owns or hands over, mostly.
func (r *historyRow) inCharge(source *rand.Rand) int64 {
	if source.Intn(12) == 0 || r.p.Nodes[1].Record.State == r.p.Nodes[0].Record.State {
		return source.Int63n(2)
	}
	if r.p.Nodes[0].Record.State < r.p.Nodes[1].Record.State {
		return 0
	}
	return 1
}

func (r *historyRow) thrownLetterAt(source *rand.Rand, m mood) int64 {
	if source.Intn(100) < m.late {
		return source.Int63n(int64(len(r.p.Post)))
	}
	return 0
}

// thrownAct goes on with what was begun, as a rule.
func (r *historyRow) thrownAct(source *rand.Rand, m mood) impl.Act {
	node, k := r.inCharge(source), source.Intn(100)
	down := slices.IndexFunc(r.p.Nodes, func(n impl.Node) bool { return !n.Up })
	blocks := int64(len(r.p.Nodes[0].Disk.Now))
	switch {
	case source.Intn(40) == 0:
		return thrownActOf(source, r.p)
	case down >= 0 && source.Intn(3) == 0:
		return riseOf(int64(down))
	case r.p.Nodes[node].Record.State == impl.StHanding && source.Intn(20) == 0:
		return fallOf(node, source.Int63n(256))
	case k < m.asks:
		return askOf(node, source.Int63n(4), thrownHistoryBytes(source, blocks))
	case k < m.asks+m.falls:
		return fallOf(source.Int63n(2), []int64{0, 255, source.Int63n(256)}[source.Intn(3)])
	case len(r.p.Post) == 0 || source.Intn(8) == 0:
		return tellOf(node, thrownKind(source, r.p.Nodes[node]), m.thrownTorn(source))
	case k < m.asks+m.falls+m.loses:
		return impl.Act{Kind: impl.AcLose + source.Int63n(2), N: r.thrownLetterAt(source, m)}
	}
	return hearOf(r.thrownLetterAt(source, m), m.thrownTorn(source))
}

// wantEach wants each of these to have come about as often.
func wantEach(t *testing.T, did map[string]int, least int, what ...string) {
	t.Helper()
	for _, one := range what {
		if did[one] < least {
			t.Errorf("%s %d times", one, did[one])
		}
	}
}

// numberedFrom are the words with each of these numbers behind them.
func numberedFrom(words string, from, to int) []string {
	list := []string{}
	for n := from; n <= to; n++ {
		list = append(list, fmt.Sprint(words, n))
	}
	return list
}

// Promise 18, over rows of 100 acts, and shorter ones, of all that can happen to a new pair.
func TestAsIfThereWereOneHouse(t *testing.T) {
	for blocks := int64(1); blocks <= 8; blocks++ {
		t.Run(fmt.Sprint(blocks), func(t *testing.T) {
			t.Parallel()
			source, did := rand.New(rand.NewSource(40+blocks)), map[string]int{}
			back := 0
			for row := range 160 {
				r, m := newHistoryRow(blocks, did), thrownHistoryMood(source)
				was := did["moved to 0"]
				for range []int{100, 100, 100, 60, 20}[row%5] {
					r.does(t, r.thrownAct(source, m))
				}
				if did["moved to 0"] > was {
					back++
				}
			}
			if back < 3 {
				t.Errorf("%d rows moved there and back", back)
			}
			for kind := 1; kind <= 7; kind++ {
				wantEach(t, did, 1, fmt.Sprintf("kind %d: true", kind), fmt.Sprintf("kind %d: false", kind))
			}
			wantEach(t, did, 10, slices.Concat(numberedFrom("Op ", 1, 12), numberedFrom("Status ", 0, 4))...)
			wantEach(t, did, 1, slices.Concat(numberedFrom("moved to ", 0, 1), numberedFrom("fell, of State ", 1, 3), numberedFrom("fell as it noted, of State ", 1, 3))...)
			wantEach(t, did, 3, "from 1 to 2", "from 2 to 3", "from 2 to 1", "asked as it is copied")
		})
	}
}

// thereAndBack moves a pair of one block there and back, and it is used in each house.
func thereAndBack() []impl.Act {
	ask := func(node, who int64, cmds ...impl.Cmd) []impl.Act {
		list := []impl.Act{}
		for _, c := range cmds {
			list = append(list, askOf(node, who, bytesOf(c)))
		}
		return list
	}
	moves := movingActs()
	return slices.Concat(ask(0, 1, registerOf(5), writeOf(0, 7)), moves[:len(moves)/2], ask(1, 1, reserveOf(impl.KiAll), swapOf(0, 7, 8)), moves[len(moves)/2:], ask(0, 1, unmapOf(0)))
}

// askMishaps are commands that come between, at either house.
func askMishaps() []mishap {
	list := []mishap{}
	for node := range int64(2) {
		for _, c := range []impl.Cmd{writeOf(0, 3), syncCmd, registerOf(9), reserveOf(impl.KiWrite)} {
			list = append(list, comes(askOf(node, 1, bytesOf(c))))
		}
		list = append(list, comes(askOf(node, 2, "no command")), comes(askOf(node, 1, bytesOf(writeOf(0, 4))), fallOf(node, 0), riseOf(node)))
	}
	return list
}

func (r *historyRow) doAll(t *testing.T, acts []impl.Act) {
	t.Helper()
	for _, a := range acts {
		r.does(t, a)
	}
}

// Promise 18, with one mishap or command at each place of a move there and back, and with another one near it.
func TestAsIfThereWereOneHouseWithMishapsAtEachPlace(t *testing.T) {
	row := thereAndBack()
	for at := range row {
		t.Run(fmt.Sprint(at), func(t *testing.T) {
			t.Parallel()
			asks := askMishaps()
			all := slices.Concat(mishaps(), asks)
			did := map[string]int{}
			for k, first := range all {
				once := first(row, at)
				for _, last := range eachFlag {
					newHistoryRow(1, did).doAll(t, slices.Concat(once, settlingActs(last)))
				}
				for j := k % 3; j < len(asks); j += 3 {
					if then := at + 1 + (k+j)%5; then < len(once) {
						second := asks[j]
						newHistoryRow(1, did).doAll(t, slices.Concat(second(once, then), settlingActs((at+k+j)%2 == 0)))
					}
				}
			}
			wantEach(t, did, 5, "moved to 1", "moved to 0", "Status 0", "Status 4")
		})
	}
}

// Blocks of one pair that is moved there and back, again and again, with a command at each place: none of them is lost, and none comes twice.
func TestMovedThereAndBackAsIfOneHouse(t *testing.T) {
	for blocks := int64(1); blocks <= 8; blocks++ {
		did := map[string]int{}
		r, next := newHistoryRow(blocks, did), int64(0)
		ask := func(node int64) {
			if len(r.p.Events) < 290 {
				r.does(t, askOf(node, next%4, bytesOf(writeOf(next%blocks, 1+next))))
				next++
			}
		}
		carry := func(node int64) {
			for len(r.p.Post) > 0 {
				r.does(t, hearOf(0, 0))
				ask(node)
			}
		}
		for times := range 4 {
			from := int64(times % 2)
			r.does(t, tellOf(from, impl.GoMove, 0))
			carry(from)
			for r.does(t, tellOf(from, impl.GoCopy, 0)) {
				for len(r.p.Post) > 0 {
					r.does(t, hearOf(0, 0))
				}
			}
			r.does(t, tellOf(from, impl.GoHand, 0))
			carry(1 - from)
		}
		if did["moved to 1"] != 2 || did["moved to 0"] != 2 {
			t.Errorf("of %d blocks: %v", blocks, did)
		}
		for at, value := range r.p.Nodes[0].Disk.Now {
			if value != r.s.Disk.Now[at] || value == 0 && int64(at) < next {
				t.Errorf("of %d blocks: %v", blocks, r.p.Nodes[0].Disk)
			}
		}
	}
}

// The goroutines of Replayed run in another order each time, and it answers the same.
func TestReplayedHangsOnNoOrder(t *testing.T) {
	defer runtime.GOMAXPROCS(runtime.GOMAXPROCS(0))
	for _, n := range []int{0, 1, 2, 3, 4, 5, 7, 100, 300} {
		h := manyEvents(2, n)
		wrong := slices.Clone(h.list)
		if n > 0 {
			wrong[n/2].Answer = impl.Answer{Status: impl.SaNone, Text: "x"}
			wrong[n/2].Kind, wrong[n/2].Set = impl.EvCmd, 0
		}
		s, same := replayedByHand(2, wrong)
		for procs := 1; procs <= 8; procs *= 2 {
			runtime.GOMAXPROCS(procs)
			for range 25 {
				h.wantReplayed(t)
				wantReplayed(t, 2, wrong, s, same)
			}
		}
	}
}

// Many that call at once, with the same list, are not in each other's way.
func TestReplayedAtOnce(t *testing.T) {
	h := manyEvents(3, 200)
	p := withEvents(newHistoryRow(3, map[string]int{}).p, h.list)
	p.Nodes[0].Disk, p.Nodes[0].Holding = cloneDisk(h.s.Disk), cloneHolding(h.s.Holding)
	callers := sync.WaitGroup{}
	for range 16 {
		callers.Go(func() {
			for range 20 {
				got, same := impl.Replayed(3, h.list)
				if !same || !sameStore(got, h.s) || !impl.Agreed(p) || !sameStore(impl.Owned(p), h.s) {
					t.Errorf("Replayed = %v, %v, not %v", got, same, h.s)
				}
				spoilStore(got)
			}
		})
	}
	callers.Wait()
}

// A goroutine that has told that it is done may need a moment to be gone, but no more than that.
func wantNoMoreGoroutines(t *testing.T, before int) {
	t.Helper()
	for range 500 {
		if runtime.NumGoroutine() <= before {
			return
		}
		time.Sleep(time.Millisecond)
	}
	t.Errorf("%d goroutines, %d ahead of it", runtime.NumGoroutine(), before)
}

// Promise 21: no goroutine is left behind, whatever is answered.
func TestReplayedLeavesNoGoroutine(t *testing.T) {
	before := runtime.NumGoroutine()
	right := manyEvents(2, 300)
	lists := [][]impl.Event{nil, right.list[:1], right.list[:3], right.list, append(slices.Clone(right.list), impl.Event{}), {{}}, {keepEvent}, {lossEvent(1), keepEvent}}
	turned := slices.Clone(right.list)
	turned[0].Answer.Text = "x"
	p := withEvents(newHistoryRow(2, map[string]int{}).p, right.list)
	for _, list := range append(lists, turned) {
		for range 50 {
			for _, blocks := range []int64{0, 2, 9} {
				impl.Replayed(blocks, list)
			}
			impl.Agreed(withEvents(p, list))
			impl.Owned(withEvents(p, list))
		}
		wantNoMoreGoroutines(t, before)
	}
}

// roomyEvents is a copy with something in the spare room behind it.
func roomyEvents(list []impl.Event) (given, whole []impl.Event) {
	whole = append(slices.Clone(list), eventsOf(spareRoom)...)
	return whole[:len(list)], whole
}

// listsToLeaveAlone are right ones, ones with another Answer, and ones of which something is no Event.
func listsToLeaveAlone() [][]impl.Event {
	right := manyEvents(3, 120).list
	return [][]impl.Event{nil, right, right[:5], eventsOf(9), append(slices.Clone(right[:3]), impl.Event{Kind: 7}), {{}}, {keepEvent, lossEvent(3)}}
}

// Promise 21: nothing is written into an argument or behind it, none of it is handed out, and no two lists of one answer share any.
func TestReplayedLeavesItsArgument(t *testing.T) {
	for _, list := range listsToLeaveAlone() {
		for _, blocks := range []int64{-1, 0, 1, 3, 8, 9} {
			given, whole := roomyEvents(list)
			got, same := impl.Replayed(blocks, given)
			want, is := replayedByHand(blocks, list)
			lists := slices.DeleteFunc(listsOf(got), func(row []int64) bool { return len(row) == 0 })
			wantApart(t, "Replayed", lists)
			again, _ := impl.Replayed(blocks, given)
			if same != is || !sameStore(again, want) {
				t.Errorf("Replayed(%d, %s) = %v behind an answer that was written over", blocks, showEvents(list), again)
			}
			lists = slices.DeleteFunc(listsOf(again), func(row []int64) bool { return len(row) == 0 })
			slices.Reverse(lists)
			wantApart(t, "Replayed, the last one first", lists)
			if _, want := roomyEvents(list); !slices.Equal(whole, want) {
				t.Errorf("Replayed(%d, %s): it is %s now", blocks, showEvents(list), showEvents(whole))
			}
		}
	}
}

func TestOwnedAndAgreedLeaveTheirArgument(t *testing.T) {
	pairs := pairsToLeaveAlone()
	for _, one := range toldPairs(t) {
		pairs = append(pairs, one.p)
	}
	for _, state := range threeStates {
		pairs = append(pairs, sharingPair(state))
	}
	for _, p := range pairs {
		r := roomyPairOf(p)
		agreed := impl.Agreed(r.given)
		owned := impl.Owned(r.given)
		r.wantLeft(t, "Agreed and Owned", p)
		want := ownedByHand(p)
		if agreed != agreedByHand(p) || !sameStore(owned, want) {
			t.Errorf("Agreed of\n%s\n= %v, Owned %v", showPair(p), agreed, owned)
		}
		wantApart(t, "Owned", slices.DeleteFunc(listsOf(owned), func(row []int64) bool { return len(row) == 0 }))
		r.wantLeft(t, "Owned, written over", p)
		again := impl.Owned(r.given)
		if !sameStore(again, want) {
			t.Errorf("Owned of\n%s\n= %v behind an answer that was written over", showPair(p), again)
		}
		lists := slices.DeleteFunc(listsOf(again), func(row []int64) bool { return len(row) == 0 })
		slices.Reverse(lists)
		wantApart(t, "Owned, the last one first", lists)
	}
}
