package tests

import (
	"fmt"
	"math"
	"math/rand"
	"slices"
	"testing"

	"loop.example/g00354/impl"
)

// A ferry is two houses, the letters that are on the way between them, and all that were ever sent; forged: others come, too.
type ferry struct {
	nodes  [2]impl.Node
	way    []impl.Msg
	sent   []impl.Msg
	forged bool
	counts map[string]int
}

func newFerry(blocks int64, forged bool, counts map[string]int) *ferry {
	f := &ferry{forged: forged, counts: counts}
	f.nodes[0], _ = impl.NewNode(0, blocks, true)
	f.nodes[1], _ = impl.NewNode(1, blocks, false)
	return f
}

// keep wants promise 15 of one step, and puts the house that was answered in the place of the one before.
func (f *ferry) keep(t *testing.T, what string, after impl.Node, msgs []impl.Msg, done bool) {
	t.Helper()
	before := f.nodes[after.Id]
	if !impl.NodeOk(after) {
		t.Fatalf("%s of %s leaves %s, which is not right", what, showNode(before), showNode(after))
	}
	if after.Record.Epoch < before.Record.Epoch {
		t.Fatalf("%s of %s leaves %s: the Epoch goes back", what, showNode(before), showNode(after))
	}
	if !done && (!sameNode(after, before) || len(msgs) > 0) {
		t.Fatalf("%s of %s is not done, and leaves %s, %v", what, showNode(before), showNode(after), msgs)
	}
	for _, m := range msgs {
		if !msgOkByHand(m) || m.To != 1-after.Id {
			t.Fatalf("%s of %s sends %+v", what, showNode(before), m)
		}
	}
	f.wantClean(t, what, after, msgs)
	if !f.forged {
		f.wantOneOwner(t, what, after)
	}
	if done {
		f.count(before, after)
	}
	f.nodes[after.Id] = after
	f.way, f.sent = append(f.way, msgs...), append(f.sent, msgs...)
}

// wantClean wants only what is Clean handed over, and all of it kept by then.
func (f *ferry) wantClean(t *testing.T, what string, after impl.Node, msgs []impl.Msg) {
	t.Helper()
	before := f.nodes[after.Id]
	if before.Record.State != impl.StOwner {
		return
	}
	hands := slices.ContainsFunc(msgs, func(m impl.Msg) bool { return m.Kind == impl.MsHand })
	if !hands && after.Record.State == impl.StOwner {
		return
	}
	if !hands || after.Record.State != impl.StHanding || !impl.Clean(before.Copier) || impl.Loose(after.Disk) != 0 {
		t.Fatalf("%s of %s leaves %s, %v: handed over, and not Clean", what, showNode(before), showNode(after), msgs)
	}
}

// wantOneOwner wants what is taken to be what is handed over, where no letter was forged.
func (f *ferry) wantOneOwner(t *testing.T, what string, after impl.Node) {
	t.Helper()
	before, other := f.nodes[after.Id], f.nodes[1-after.Id]
	if after.Record.State != impl.StOwner || before.Record.State == impl.StOwner {
		return
	}
	if other.Record.State == impl.StOwner {
		t.Fatalf("%s of %s: both own it", what, showNode(before))
	}
	if before.Record.State == impl.StOther {
		same := sameHolding(after.Holding, other.Holding) && slices.Equal(after.Disk.Kept, other.Disk.Now)
		if other.Record.State != impl.StHanding || !same {
			t.Fatalf("%s takes %s from %s", what, showNode(after), showNode(other))
		}
	}
}

func (f *ferry) count(before, after impl.Node) {
	was, is := before.Record, after.Record
	switch {
	case before.Up && !after.Up && after.Log != before.Log:
		f.counts["fell as it noted"]++
	case before.Up && !after.Up:
		f.counts["fell"]++
	case !before.Up && after.Up:
		f.counts["rose"]++
	case was.State != is.State:
		f.counts[fmt.Sprintf("from %d to %d", was.State, is.State)]++
	case was.Tried != is.Tried:
		f.counts["began"]++
	case was.Seen != is.Seen:
		f.counts["saw a try"]++
	}
}

// nextKind is one that goes on with what was begun.
func nextKind(source *rand.Rand, n impl.Node) int64 {
	c := n.Copier
	switch {
	case n.Record.State == impl.StHanding:
		return []int64{impl.GoSend, impl.GoCancel, impl.GoCancel}[source.Intn(3)]
	case c.Try == 0:
		return impl.GoMove
	case impl.Clean(c):
		return impl.GoHand
	case c.Open && c.Dirty > 0:
		return impl.GoCopy
	}
	return impl.GoAgain
}

func thrownKind(source *rand.Rand, n impl.Node) int64 {
	switch source.Intn(25) {
	case 0:
		return thrownNear(source, 0, 1, 6)
	case 1, 2, 3:
		return 1 + source.Int63n(6)
	}
	return nextKind(source, n)
}

// thrownLetterSent is mostly the first that is on the way, but may be any one that was ever sent. Some come twice, and some are lost, or come late at the best.
func (f *ferry) thrownLetterSent(source *rand.Rand) impl.Msg {
	if len(f.way) > 0 && source.Intn(12) == 0 {
		f.way = f.way[1:]
	}
	if len(f.way) == 0 || source.Intn(8) == 0 {
		return f.sent[source.Intn(len(f.sent))]
	}
	m := f.way[0]
	if source.Intn(8) > 0 {
		f.way = f.way[1:]
	}
	return m
}

func (f *ferry) tell(t *testing.T, source *rand.Rand, n impl.Node) {
	t.Helper()
	kind, torn := thrownKind(source, n), f.thrownTorn(source)
	wantNodeToldByHand(t, n, kind, torn)
	if after, msgs, done := impl.Told(n, kind, torn); torn >= 0 {
		f.keep(t, fmt.Sprintf("Told %d, torn %d,", kind, torn), after, msgs, done)
	}
}

func (f *ferry) hear(t *testing.T, source *rand.Rand, n impl.Node, m impl.Msg) {
	t.Helper()
	torn := f.thrownTorn(source)
	wantNodeHeardByHand(t, n, m, torn)
	if after, msgs, done := impl.Heard(n, m, torn); torn >= 0 {
		f.keep(t, fmt.Sprintf("Heard %+v, torn %d,", m, torn), after, msgs, done)
	}
}

func (f *ferry) ask(t *testing.T, source *rand.Rand, n impl.Node) {
	t.Helper()
	who, bytes := thrownPerson(source), bytesOf(thrownStoreCmd(source))
	if source.Intn(20) == 0 {
		bytes = notCmdBytes[source.Intn(len(notCmdBytes))].bytes
	}
	wantAskedByHand(t, n, who, bytes)
	after, a := impl.Asked(n, who, bytes)
	f.keep(t, fmt.Sprintf("Asked by %d %q", who, bytes), after, nil, a.Status == impl.SaGood)
}

func (f *ferry) fallOrRise(t *testing.T, source *rand.Rand, n impl.Node) {
	t.Helper()
	if after, done := impl.Risen(n); !n.Up || source.Intn(2) == 0 {
		f.keep(t, "Risen", after, nil, done)
		return
	}
	set := thrownNear(source, 0, 85, 170, 255)
	after, done := impl.Fallen(n, set)
	f.keep(t, fmt.Sprint("Fallen with ", set), after, nil, done)
}

// thrownTorn is seldom above 0, so that it comes to something.
func (f *ferry) thrownTorn(source *rand.Rand) int64 {
	if source.Intn(2) == 0 {
		return thrownTorn(source)
	}
	return 0
}

// step is one of all that can come; what is down rises sooner than what is Up falls.
func (f *ferry) step(t *testing.T, source *rand.Rand) {
	t.Helper()
	n := f.nodes[source.Intn(2)]
	k := source.Intn(100)
	switch {
	case k < 4:
		f.ask(t, source, n)
	case k < 5 || !n.Up && k < 40:
		f.fallOrRise(t, source, n)
	case f.forged && k < 12:
		f.hear(t, source, n, thrownMsg(source, n))
	case k < 40 || len(f.sent) == 0:
		f.tell(t, source, n)
	default:
		m := f.thrownLetterSent(source)
		if source.Intn(20) > 0 {
			n = f.nodes[m.To]
		}
		f.hear(t, source, n, m)
	}
}

// Promise 15, over long rows of all that can come, with the letters that were sent carried between two houses, also late and twice, and with others that were never sent.
func TestAHouseStaysRightWhateverComes(t *testing.T) {
	t.Parallel()
	source := rand.New(rand.NewSource(22))
	for blocks := int64(1); blocks <= 8; blocks++ {
		for _, forged := range eachFlag {
			counts := map[string]int{}
			for range 25 {
				f := newFerry(blocks, forged, counts)
				for range 500 {
					f.step(t, source)
				}
			}
			for _, what := range []string{"fell as it noted", "fell", "rose", "from 1 to 2", "from 2 to 3", "from 3 to 1", "from 2 to 1", "began", "saw a try"} {
				if counts[what] == 0 {
					t.Errorf("of %d blocks, forged %v: none %s", blocks, forged, what)
				}
			}
		}
	}
}

// ferried is a ferry that was moved as often, each time with a write on the way and with the letters heard in the order in which they were sent.
func ferried(t *testing.T, blocks int64, times int) *ferry {
	t.Helper()
	f := newFerry(blocks, false, map[string]int{})
	carry := func() {
		for len(f.way) > 0 {
			m := f.way[0]
			f.way = f.way[1:]
			after, msgs, done := impl.Heard(f.nodes[m.To], m, 0)
			f.keep(t, fmt.Sprintf("Heard %+v", m), after, msgs, done)
		}
	}
	tell := func(id int, kind int64) {
		after, msgs, done := impl.Told(f.nodes[id], kind, 0)
		if !done {
			t.Fatalf("Told %d of %s is not done", kind, showNode(f.nodes[id]))
		}
		f.keep(t, fmt.Sprint("Told ", kind), after, msgs, done)
		carry()
	}
	for k := range times {
		from := k % 2
		tell(from, impl.GoMove)
		for range blocks {
			tell(from, impl.GoCopy)
		}
		after, a := impl.Asked(f.nodes[from], 1, bytesOf(writeOf(int64(k)%blocks, int64(100+k))))
		f.keep(t, "Asked", after, nil, a.Status == impl.SaGood)
		wantToldStays(t, f.nodes[from], impl.GoHand, 0)
		tell(from, impl.GoCopy)
		tell(from, impl.GoHand)
	}
	return f
}

// What is handed over from house to house is what was written, and the Epoch goes on by 1 each time.
func TestHandedOverAndBack(t *testing.T) {
	for blocks := int64(1); blocks <= 8; blocks++ {
		f := ferried(t, blocks, 9)
		owner, other := f.nodes[1], f.nodes[0]
		if owner.Record != (impl.Record{Epoch: 10, State: impl.StOwner, Tried: 4, Seen: 5}) || other.Record != (impl.Record{Epoch: 10, State: impl.StOther, Tried: 5, Seen: 4}) {
			t.Errorf("of %d blocks: %v, %v", blocks, owner.Record, other.Record)
		}
		want := make([]int64, blocks)
		for k := range int64(9) {
			want[k%blocks] = 100 + k
		}
		if !slices.Equal(owner.Disk.Now, want) || !slices.Equal(owner.Disk.Kept, want) || owner.Copier.Try != 0 || owner.Sink.Try != 0 {
			t.Errorf("of %d blocks: %s, not %v", blocks, showNode(owner), want)
		}
	}
}

func listsOfNode(n impl.Node, msgs []impl.Msg) [][]int64 {
	lists := [][]int64{n.Disk.Kept, n.Disk.Now, n.Holding.Keys, n.Copier.Turns, n.Sink.Turns}
	for _, m := range msgs {
		lists = append(lists, m.Holding.Keys)
	}
	return lists
}

func spoilNode(n impl.Node, msgs ...impl.Msg) {
	for _, list := range listsOfNode(n, msgs) {
		spoil(list)
	}
}

// A nodeCall is a call with its other arguments given, but for the Keys of what is handed over.
type nodeCall struct {
	name string
	call func(n impl.Node, keys []int64) (impl.Node, []impl.Msg)
}

func nodeCalls() []nodeCall {
	calls := []nodeCall{
		{"NodeOk", func(n impl.Node, _ []int64) (impl.Node, []impl.Msg) { impl.NodeOk(n); return impl.Node{}, nil }},
		{"Risen", func(n impl.Node, _ []int64) (impl.Node, []impl.Msg) { got, _ := impl.Risen(n); return got, nil }},
	}
	for _, set := range []int64{-1, 0, 5, 255} {
		calls = append(calls, nodeCall{fmt.Sprint("Fallen with ", set), func(n impl.Node, _ []int64) (impl.Node, []impl.Msg) {
			got, _ := impl.Fallen(n, set)
			return got, nil
		}})
	}
	for _, c := range []impl.Cmd{readOf(0), writeOf(0, 3), swapOf(1, 51, 4), unmapOf(200), syncCmd, registerOf(9), releaseCmd, clearCmd, keysCmd, {Op: 13}} {
		calls = append(calls, nodeCall{fmt.Sprint("Asked ", c), func(n impl.Node, _ []int64) (impl.Node, []impl.Msg) {
			got, _ := impl.Asked(n, 1, bytesOf(c))
			return got, nil
		}})
	}
	for _, torn := range []int64{-1, 0, 4} {
		for kind := int64(0); kind <= 7; kind++ {
			calls = append(calls, nodeCall{fmt.Sprint("Told ", kind, " torn ", torn), func(n impl.Node, _ []int64) (impl.Node, []impl.Msg) {
				got, msgs, _ := impl.Told(n, kind, torn)
				return got, msgs
			}})
		}
		for _, try := range []int64{0, 6, 7} {
			for _, epoch := range []int64{3, 4, 5} {
				eachLetter(0, try, epoch, func(m impl.Msg) {
					calls = append(calls, nodeCall{fmt.Sprintf("Heard %+v torn %d", m, torn), func(n impl.Node, keys []int64) (impl.Node, []impl.Msg) {
						m := m
						m.To, m.Turn = n.Id, 4
						if m.Kind == impl.MsHand {
							m.Holding.Keys = keys
						}
						got, msgs, _ := impl.Heard(n, m, torn)
						return got, msgs
					}})
				})
			}
		}
	}
	return calls
}

// nodesToLeaveAlone are those that do something, those that stay as they are, and those that are not right.
func nodesToLeaveAlone() []impl.Node {
	list := []impl.Node{{}}
	for _, blocks := range []int{1, 3, 8} {
		for _, state := range threeStates {
			list = append(list, nodesOf(nodeOf(1, blocks, impl.Record{Epoch: 4, State: state, Tried: 6, Seen: 6}))...)
		}
	}
	for k, b := range nodeBreaches() {
		if k%29 == 0 {
			list = append(list, b.n)
		}
	}
	return list
}

// withLists has these in the place of its own.
func withLists(n impl.Node, lists [][]int64) impl.Node {
	n.Disk, n.Holding.Keys = diskOf(lists[0], lists[1]), lists[2]
	n.Copier.Turns, n.Sink.Turns = lists[3], lists[4]
	return n
}

var handedKeys = []int64{0, 0, 9, 1}

// Promise 21: nothing is written into an argument or behind it, and none of it is handed out.
func TestNodeLeavesItsArgument(t *testing.T) {
	calls := nodeCalls()
	for _, n := range nodesToLeaveAlone() {
		for _, one := range calls {
			sameArgs(t, one.name, append(listsOfNode(n, nil), handedKeys), func(in [][]int64) {
				given := withLists(n, in)
				got, msgs := one.call(given, in[5])
				spoilNode(got, msgs...)
				if given.Id != n.Id || given.Up != n.Up || given.Log != n.Log || given.Record != n.Record {
					t.Errorf("%s: %s is %s now", one.name, showNode(n), showNode(given))
				}
				if sharesMemory(got.Log, n.Log) {
					t.Errorf("%s of %s: the Log that is answered shares the memory of the one that was given", one.name, showNode(n))
				}
			})
		}
	}
}

// Each list of an answer is written over by itself: the others stay, those of the letters, too.
func TestListsOfANodeShareNothing(t *testing.T) {
	calls := nodeCalls()
	for _, n := range nodesToLeaveAlone() {
		for _, one := range calls {
			want := listsOfNode(one.call(n, handedKeys))
			for k := range want {
				got := listsOfNode(one.call(n, handedKeys))
				if len(got[k]) == 0 {
					continue
				}
				spoil(got[k])
				for other := range want {
					if other != k && !slices.Equal(got[other], want[other]) {
						t.Errorf("%s of %s: list %d is %v after list %d was written over", one.name, showNode(n), other, got[other], k)
					}
				}
			}
		}
	}
}

// An answer that was written over does not come back with the next one.
func TestNodeAnswersAreNewMemory(t *testing.T) {
	calls := nodeCalls()
	for _, n := range nodesToLeaveAlone() {
		for _, one := range calls {
			want, wantMsgs := one.call(n, handedKeys)
			first, firstMsgs := one.call(n, handedKeys)
			second, secondMsgs := one.call(n, handedKeys)
			spoilNode(first, firstMsgs...)
			for k := range firstMsgs {
				firstMsgs[k] = impl.Msg{Kind: -77}
			}
			third, thirdMsgs := one.call(n, handedKeys)
			if !sameNode(second, want) || !sameNode(third, want) || !slices.EqualFunc(secondMsgs, wantMsgs, sameMsg) || !slices.EqualFunc(thirdMsgs, wantMsgs, sameMsg) {
				t.Errorf("%s of %s: an answer is changed as another one is written over", one.name, showNode(n))
			}
		}
	}
}

// A house whose lists lie over each other in memory is not told from one whose lists do not.
func TestNodeOfListsThatShare(t *testing.T) {
	whole := []int64{11, 22, 33, 44, 55, 66, 77}
	for _, state := range threeStates {
		for from := range 3 {
			over := nodeOf(1, 4, impl.Record{Epoch: 4, State: state, Tried: 6, Seen: 6})
			over.Disk, over.Holding.Keys = diskOf(whole[from:from+4], whole[:4]), whole[from:from+4]
			if state == impl.StOther {
				over.Sink = sinkOf(6, whole[1:5]...)
			} else {
				over.Copier = copierOf(6, true, 3, 2, whole[1:5]...)
			}
			apart := cloneNode(over)
			for _, one := range nodeCalls() {
				got, msgs := one.call(over, whole[:4])
				want, wantMsgs := one.call(apart, slices.Clone(whole[:4]))
				if !sameNode(got, want) || !slices.EqualFunc(msgs, wantMsgs, sameMsg) {
					t.Errorf("%s of %s = %s, not %s", one.name, showNode(apart), showNode(got), showNode(want))
				}
				spoilNode(got, msgs...)
				if !sameNode(over, apart) {
					t.Fatalf("%s hands out its argument", one.name)
				}
			}
		}
	}
}

// The spare room behind the Turns and the blocks tells nothing: what lies there is no block.
func TestNodeWithRoomBehindItsLists(t *testing.T) {
	long := ramp(12, 1)
	for n := 1; n <= 8; n++ {
		other := nodeOf(1, n, impl.Record{Epoch: 4, State: impl.StOther, Tried: 6, Seen: 6})
		other.Disk, other.Sink = diskOf(long[:n], ramp(12, 50)[:n]), impl.Sink{Try: 6, Turns: long[:n]}
		for at := range int64(8) {
			wantNodeHeardByHand(t, other, impl.Msg{To: 1, Kind: impl.MsCopy, Try: 6, At: at, Turn: at + 2, Value: 5}, 0)
		}
		owner := nodeOf(1, n, impl.Record{Epoch: 4, State: impl.StOwner, Tried: 6, Seen: 6})
		owner.Copier = impl.Copier{Try: 6, Open: true, Dirty: 1, Waits: 1<<n - 1, Turns: long[:n]}
		for at := range int64(8) {
			wantNodeHeardByHand(t, owner, impl.Msg{To: 1, Kind: impl.MsCopied, Try: 6, At: at, Turn: at + 1}, 0)
			wantAskedByHand(t, owner, 1, bytesOf(writeOf(at, 3)))
		}
	}
}

// Promise 21: each answers at every argument, with numbers from one end of their range to the other.
func TestNodeAnswersAtEveryArgument(t *testing.T) {
	ends := []int64{math.MinInt64, math.MinInt64 + 1, -1 << 32, -1, 0, 1, 2, 3, 7, 8, 9, 255, 256, 9999, 10000, 40000, 100000, 100001, 1000000000, 1000000001, 1 << 32, math.MaxInt64 - 1, math.MaxInt64}
	houses := []impl.Node{stateNode(impl.StOwner, "dirty and waits"), stateNode(impl.StHanding, "clean"), withSink(stateNode(impl.StOther, "none"), sinkOf(6, 1, 7, 2)), fallenByHand(stateNode(impl.StOwner, "none"), 0), {}}
	for _, a := range ends {
		for _, b := range ends {
			n, is := impl.NewNode(a, b, true)
			if fine := a >= 0 && a <= 1 && b >= 1 && b <= 8; is != fine || fine == noNode(n) {
				t.Errorf("NewNode(%d, %d) = %s, %v", a, b, showNode(n), is)
			}
			for _, n := range houses {
				wantNodeToldByHand(t, n, a, b)
				wantNodeHeardByHand(t, n, impl.Msg{Kind: a, Try: 6, At: b, Turn: 8}, 0)
				wantNodeHeardByHand(t, n, impl.Msg{Kind: 3, Try: 6, At: a, Turn: b}, 0)
				wantNodeHeardByHand(t, n, impl.Msg{Kind: 4, Try: 6, At: a, Turn: b}, 0)
				wantNodeHeardByHand(t, n, impl.Msg{Kind: 5, Try: a, Epoch: b, Holding: impl.NewHolding()}, 0)
				wantNodeHeardByHand(t, n, impl.Msg{Kind: 6, Try: a, Epoch: b}, 0)
				wantNodeHeardByHand(t, n, impl.Msg{Kind: 7, Try: a, Epoch: b}, 0)
				wantNodeHeardByHand(t, n, impl.Msg{Kind: 7, Try: 7, Epoch: 4}, a)
				wantNodeHeardByHand(t, n, impl.Msg{To: a, Kind: 1, Try: 7, Value: b}, 0)
				wantAskedByHand(t, n, a, bytesOf(writeOf(b&255, a&65535)))
				broken := edited(n, func(n *impl.Node) { n.Id, n.Copier.Dirty, n.Sink.Try = a, b, b })
				wantNodeToldByHand(t, broken, 3, 0)
				broken = edited(n, func(n *impl.Node) { n.Record.Tried, n.Record.Seen, n.Copier.Try = a, b, a })
				wantNodeToldByHand(t, broken, 1, 0)
			}
		}
		for _, n := range houses {
			isSet := a >= 0 && a <= 255
			want := n
			if n.Up && isSet {
				want = fallenByHand(n, a)
			}
			wantFallen(t, n, a, want, n.Up && isSet)
		}
	}
}
