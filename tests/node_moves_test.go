package tests

import (
	"fmt"
	"math"
	"math/rand"
	"strings"
	"testing"

	"loop.example/g00354/impl"
)

// stateNode has Epoch 4, Tried 6 and Seen 6.
func stateNode(state int64, copier string) impl.Node {
	return withCopier(nodeOf(0, 3, impl.Record{Epoch: 4, State: state, Tried: 6, Seen: 6}), copierShape(copier, 3, 6))
}

// Each of the six kinds in each State with each Copier: which are done, and with which letter (0: none).
func TestToldOfEachStateWrittenOut(t *testing.T) {
	type letters = map[int64]int64
	for _, one := range []struct {
		state  int64
		copier string
		done   letters
	}{
		{impl.StOwner, "none", letters{impl.GoMove: impl.MsBegin}},
		{impl.StOwner, "closed", letters{impl.GoAgain: impl.MsBegin, impl.GoCancel: 0}},
		{impl.StOwner, "dirty", letters{impl.GoAgain: 0, impl.GoCopy: impl.MsCopy, impl.GoCancel: 0}},
		{impl.StOwner, "dirty and waits", letters{impl.GoAgain: 0, impl.GoCopy: impl.MsCopy, impl.GoCancel: 0}},
		{impl.StOwner, "waits", letters{impl.GoAgain: 0, impl.GoCancel: 0}},
		{impl.StOwner, "clean", letters{impl.GoAgain: 0, impl.GoHand: impl.MsHand, impl.GoCancel: 0}},
		{impl.StHanding, "none", letters{impl.GoSend: impl.MsHand, impl.GoCancel: impl.MsCancel}},
		{impl.StHanding, "closed", letters{impl.GoAgain: impl.MsBegin, impl.GoSend: impl.MsHand, impl.GoCancel: impl.MsCancel}},
		{impl.StHanding, "dirty", letters{impl.GoAgain: 0, impl.GoCopy: impl.MsCopy, impl.GoSend: impl.MsHand, impl.GoCancel: impl.MsCancel}},
		{impl.StHanding, "waits", letters{impl.GoAgain: 0, impl.GoSend: impl.MsHand, impl.GoCancel: impl.MsCancel}},
		{impl.StHanding, "clean", letters{impl.GoAgain: 0, impl.GoSend: impl.MsHand, impl.GoCancel: impl.MsCancel}},
		{impl.StOther, "none", letters{}},
	} {
		n := stateNode(one.state, one.copier)
		for kind := int64(1); kind <= 6; kind++ {
			letter, does := one.done[kind]
			if !does {
				wantToldStays(t, n, kind, 0)
				wantToldStays(t, n, kind, 5)
				continue
			}
			_, msgs, done := impl.Told(n, kind, 0)
			if !done || len(msgs) > 1 || (letter != 0) != (len(msgs) == 1) || letter != 0 && msgs[0].Kind != letter {
				t.Errorf("State %d, %s, Told %d: %v, %v", one.state, one.copier, kind, msgs, done)
			}
		}
		down := fallenByHand(n, 0)
		for kind := int64(0); kind <= 7; kind++ {
			wantToldStays(t, down, kind, 0)
			wantToldStays(t, down, kind, 5)
		}
		for _, kind := range append([]int64{0, 7, 8}, farNumbers...) {
			wantToldStays(t, n, kind, 0)
		}
	}
}

// A house that receives does nothing by itself.
func TestToldOfWhoReceives(t *testing.T) {
	n := withSink(stateNode(impl.StOther, "none"), sinkOf(6, 0, 1, 2))
	for kind := int64(0); kind <= 7; kind++ {
		wantToldStays(t, n, kind, 0)
	}
}

func TestGoMoveWrittenOut(t *testing.T) {
	for id := range int64(2) {
		for _, tried := range []int64{0, 1, 6, 99998, 99999} {
			n := nodeOf(id, 3, impl.Record{Epoch: 4, State: impl.StOwner, Tried: tried, Seen: 9})
			want := notedNode(n, impl.Record{Epoch: 4, State: impl.StOwner, Tried: tried + 1, Seen: 9})
			want.Copier = copierOf(tried+1, false, 7, 0, 0, 0, 0)
			wantNodeTold(t, n, impl.GoMove, 0, want, []impl.Msg{{To: 1 - id, Kind: impl.MsBegin, Try: tried + 1}}, true)
		}
		wantToldStays(t, nodeOf(id, 3, impl.Record{Epoch: 4, State: impl.StOwner, Tried: 100000, Seen: 9}), impl.GoMove, 0)
	}
	for blocks := 1; blocks <= 8; blocks++ {
		n := nodeOf(0, blocks, impl.Record{Epoch: 4, State: impl.StOwner})
		want := notedNode(n, impl.Record{Epoch: 4, State: impl.StOwner, Tried: 1})
		want.Copier = copierOf(1, false, 1<<blocks-1, 0, make([]int64, blocks)...)
		wantNodeTold(t, n, impl.GoMove, 0, want, []impl.Msg{{To: 1, Kind: impl.MsBegin, Try: 1}}, true)
	}
}

func TestGoAgainWrittenOut(t *testing.T) {
	for _, state := range []int64{impl.StOwner, impl.StHanding} {
		closed := stateNode(state, "closed")
		wantNodeTold(t, closed, impl.GoAgain, 0, closed, []impl.Msg{{To: 1, Kind: impl.MsBegin, Try: 6}}, true)
		wantNodeTold(t, closed, impl.GoAgain, 9, closed, []impl.Msg{{To: 1, Kind: impl.MsBegin, Try: 6}}, true)
		n := withCopier(closed, copierOf(6, true, 1, 6, 3, 4, 5))
		wantNodeTold(t, n, impl.GoAgain, 0, withCopier(closed, copierOf(6, true, 7, 0, 3, 4, 5)), nil, true)
		n = withCopier(closed, copierOf(6, true, 1, 4, 3, 4, 5))
		wantNodeTold(t, n, impl.GoAgain, 9, withCopier(closed, copierOf(6, true, 5, 0, 3, 4, 5)), nil, true)
		clean := stateNode(state, "clean")
		wantNodeTold(t, clean, impl.GoAgain, 0, clean, nil, true)
	}
}

func TestGoCopyWrittenOut(t *testing.T) {
	for _, state := range []int64{impl.StOwner, impl.StHanding} {
		n := stateNode(state, "none")
		for _, one := range []struct {
			dirty, waits int64
			at           int64
			turns        []int64
		}{
			{7, 0, 0, []int64{4, 4, 5}},
			{6, 1, 1, []int64{3, 5, 5}},
			{4, 7, 2, []int64{3, 4, 6}},
		} {
			want := withCopier(n, copierOf(6, true, one.dirty&^(1<<one.at), one.waits|1<<one.at, one.turns...))
			m := impl.Msg{To: 1, Kind: impl.MsCopy, Try: 6, At: one.at, Turn: one.turns[one.at], Value: 50 + one.at}
			for _, torn := range []int64{0, 1, 100} {
				wantNodeTold(t, withCopier(n, copierOf(6, true, one.dirty, one.waits, 3, 4, 5)), impl.GoCopy, torn, want, []impl.Msg{m}, true)
			}
		}
		wantToldStays(t, withCopier(n, copierOf(6, false, 7, 0, 3, 4, 5)), impl.GoCopy, 0)
		wantToldStays(t, withCopier(n, copierOf(6, true, 7, 0, impl.MaxTurn, 4, 5)), impl.GoCopy, 0)
		want := withCopier(n, copierOf(6, true, 6, 1, impl.MaxTurn, 4, 5))
		wantNodeTold(t, withCopier(n, copierOf(6, true, 7, 0, impl.MaxTurn-1, 4, 5)), impl.GoCopy, 0, want, []impl.Msg{{To: 1, Kind: impl.MsCopy, Try: 6, Turn: impl.MaxTurn, Value: 50}}, true)
	}
}

func TestGoHandAndGoSendWrittenOut(t *testing.T) {
	for id := range int64(2) {
		n := withCopier(nodeOf(id, 3, impl.Record{Epoch: 4, State: impl.StOwner, Tried: 6, Seen: 2}), copierShape("clean", 3, 6))
		want := notedNode(n, impl.Record{Epoch: 4, State: impl.StHanding, Tried: 6, Seen: 2})
		want.Disk = diskOf(ramp(3, 50), ramp(3, 50))
		hand := impl.Msg{To: 1 - id, Kind: impl.MsHand, Try: 6, Epoch: 4, Holding: held(2, 1, 8, 5, 7, 0, 0)}
		wantNodeTold(t, n, impl.GoHand, 0, want, []impl.Msg{hand}, true)
		wantToldStays(t, want, impl.GoHand, 0)
		wantNodeTold(t, want, impl.GoSend, 0, want, []impl.Msg{hand}, true)
		wantNodeTold(t, want, impl.GoSend, 3, want, []impl.Msg{hand}, true)
		risen := edited(want, func(n *impl.Node) { n.Copier = impl.Copier{} })
		wantNodeTold(t, risen, impl.GoSend, 0, risen, []impl.Msg{hand}, true)
		loose := edited(risen, func(n *impl.Node) { n.Disk = rampDisk(3) })
		wantNodeTold(t, loose, impl.GoSend, 0, loose, []impl.Msg{hand}, true)
	}
}

func TestGoCancelWrittenOut(t *testing.T) {
	for _, shape := range copierShapes {
		n := stateNode(impl.StHanding, shape)
		cancel := impl.Msg{To: 1, Kind: impl.MsCancel, Try: 6, Epoch: 4}
		wantNodeTold(t, n, impl.GoCancel, 0, n, []impl.Msg{cancel}, true)
		wantNodeTold(t, n, impl.GoCancel, 7, n, []impl.Msg{cancel}, true)
		if shape != "none" {
			wantNodeTold(t, stateNode(impl.StOwner, shape), impl.GoCancel, 7, stateNode(impl.StOwner, "none"), nil, true)
		}
	}
}

// A hearing is a house, what it hears, and what comes of it.
type hearing struct {
	what string
	n    impl.Node
	m    impl.Msg
	want impl.Node
	msgs []impl.Msg
}

// hears wants what is changed or answered, and else the house as it is.
func hears(t *testing.T, tests []hearing) {
	t.Helper()
	for _, one := range tests {
		t.Run(one.what, func(t *testing.T) {
			done := len(one.msgs) > 0 || !sameNode(one.n, one.want)
			wantNodeHeard(t, one.n, one.m, 0, one.want, one.msgs, done)
			down := fallenByHand(one.n, 0)
			wantHeardStays(t, down, one.m, 0)
			wantHeardStays(t, down, one.m, 5)
			other := one.m
			other.To = 1 - other.To
			wantHeardStays(t, one.n, other, 0)
		})
	}
}

func oneMsg(m impl.Msg) []impl.Msg { return []impl.Msg{m} }

func TestMsBeginWrittenOut(t *testing.T) {
	r := impl.Record{Epoch: 4, State: impl.StOther, Tried: 9, Seen: 6}
	seen := func(try int64) impl.Record { r := r; r.Seen = try; return r }
	none := nodeOf(1, 3, r)
	with := withSink(none, sinkOf(6, 0, 7, 2))
	begin := func(try int64) impl.Msg { return impl.Msg{To: 1, Kind: impl.MsBegin, Try: try} }
	ready := func(try int64) []impl.Msg { return oneMsg(impl.Msg{To: 0, Kind: impl.MsReady, Try: try}) }
	began := func(n impl.Node, try int64) impl.Node {
		return withSink(notedNode(n, seen(try)), sinkOf(try, 0, 0, 0))
	}
	blank := nodeOf(1, 3, seen(0))
	list := []hearing{
		{"Try above Seen, no Sink", none, begin(7), began(none, 7), ready(7)},
		{"Try above Seen, a Sink", with, begin(7), began(with, 7), ready(7)},
		{"Try far above Seen", with, begin(100000), began(with, 100000), ready(100000)},
		{"Try is Seen, a Sink", with, begin(6), with, ready(6)},
		{"Try is Seen, no Sink", none, begin(6), none, nil},
		{"Try below Seen, a Sink", with, begin(5), with, nil},
		{"Try below Seen, no Sink", none, begin(5), none, nil},
		{"Try 0, a Sink", with, begin(0), with, nil},
		{"Try 0, nothing Seen", blank, begin(0), blank, nil},
		{"Try 1, nothing Seen", blank, begin(1), began(blank, 1), ready(1)},
		{"what is not told counts for nothing", none, impl.Msg{To: 1, Kind: impl.MsBegin, Try: 7, At: 7, Turn: 9, Value: 8, Epoch: 100000, Holding: held(0, -1, 0, 0, 0, 0, 0)}, began(none, 7), ready(7)},
	}
	for _, state := range []int64{impl.StOwner, impl.StHanding} {
		for _, shape := range copierShapes {
			n := stateNode(state, shape)
			for _, try := range []int64{0, 5, 6, 7, 100000} {
				list = append(list, hearing{fmt.Sprint("State ", state, shape, try), n, impl.Msg{Kind: impl.MsBegin, Try: try}, n, nil})
			}
		}
	}
	hears(t, list)
}

func TestMsReadyWrittenOut(t *testing.T) {
	ready := func(try int64) impl.Msg { return impl.Msg{Kind: impl.MsReady, Try: try} }
	list := []hearing{}
	for _, state := range threeStates {
		for _, shape := range copierShapes {
			n := stateNode(state, shape)
			if state == impl.StOther {
				n = withSink(stateNode(state, "none"), sinkOf(6, 0, 7, 2))
			}
			for _, try := range []int64{0, 5, 6, 7} {
				want := n
				if shape == "closed" && state != impl.StOther && try == 6 {
					want = withCopier(n, copierOf(6, true, 7, 0, 0, 0, 0))
				}
				list = append(list, hearing{fmt.Sprint("State ", state, shape, try), n, ready(try), want, nil})
			}
		}
		fresh := nodeOf(0, 3, impl.Record{State: state})
		list = append(list, hearing{fmt.Sprint("State ", state, " nothing Tried"), fresh, ready(0), fresh, nil})
	}
	hears(t, list)
}

func TestMsCopyWrittenOut(t *testing.T) {
	none := nodeOf(1, 3, impl.Record{Epoch: 4, State: impl.StOther, Tried: 9, Seen: 6})
	n := withSink(none, sinkOf(6, 0, 7, impl.MaxTurn))
	copied := func(try, at, turn int64) impl.Msg {
		return impl.Msg{To: 1, Kind: impl.MsCopy, Try: try, At: at, Turn: turn, Value: 77}
	}
	answer := func(at, turn int64) []impl.Msg {
		return oneMsg(impl.Msg{To: 0, Kind: impl.MsCopied, Try: 6, At: at, Turn: turn})
	}
	received := func(at, turn int64) impl.Node {
		return edited(n, func(n *impl.Node) { n.Sink.Turns[at], n.Disk.Now[at] = turn, 77 })
	}
	hears(t, []hearing{
		{"the first time", n, copied(6, 0, 1), received(0, 1), answer(0, 1)},
		{"1 more", n, copied(6, 1, 8), received(1, 8), answer(1, 8)},
		{"many more", n, copied(6, 1, impl.MaxTurn), received(1, impl.MaxTurn), answer(1, impl.MaxTurn)},
		{"the same", n, copied(6, 1, 7), n, answer(1, 7)},
		{"the same, MaxTurn", n, copied(6, 2, impl.MaxTurn), n, answer(2, impl.MaxTurn)},
		{"an older one", n, copied(6, 1, 6), n, answer(1, 6)},
		{"a far older one", n, copied(6, 2, 1), n, answer(2, 1)},
		{"Turn 0", n, copied(6, 0, 0), n, answer(0, 0)},
		{"no such block", n, copied(6, 3, 1), n, nil},
		{"no such block of eight", n, copied(6, 7, 1), n, nil},
		{"an older try", n, copied(5, 0, 1), n, nil},
		{"a newer try", n, copied(7, 0, 1), n, nil},
		{"try 0", n, copied(0, 0, 1), n, nil},
		{"no Sink", none, copied(6, 0, 1), none, nil},
		{"no Sink, try 0", none, copied(0, 0, 1), none, nil},
		{"what is not told counts for nothing", n, impl.Msg{To: 1, Kind: impl.MsCopy, Try: 6, At: 1, Turn: 8, Value: 77, Epoch: 100000, Holding: held(0, -1, 0, 0, 0, 0, 0)}, received(1, 8), answer(1, 8)},
	})
	for _, state := range []int64{impl.StOwner, impl.StHanding} {
		for _, shape := range copierShapes {
			wantHeardStays(t, stateNode(state, shape), impl.Msg{Kind: impl.MsCopy, Try: 6, Turn: 9, Value: 77}, 0)
			wantHeardStays(t, stateNode(state, shape), impl.Msg{Kind: impl.MsCopy, Turn: 9, Value: 77}, 0)
		}
	}
	for blocks := 1; blocks <= 8; blocks++ {
		n := nodeOf(1, blocks, none.Record)
		n.Sink = sinkOf(6, make([]int64, blocks)...)
		for at := range int64(8) {
			if at >= int64(blocks) {
				wantHeardStays(t, n, copied(6, at, 1), 0)
				continue
			}
			want := edited(n, func(n *impl.Node) { n.Sink.Turns[at], n.Disk.Now[at] = 1, 77 })
			wantNodeHeard(t, n, copied(6, at, 1), 9, want, answer(at, 1), true)
		}
	}
}

func TestMsCopiedWrittenOut(t *testing.T) {
	copied := func(try, at, turn int64) impl.Msg {
		return impl.Msg{Kind: impl.MsCopied, Try: try, At: at, Turn: turn}
	}
	for _, state := range []int64{impl.StOwner, impl.StHanding} {
		none := stateNode(state, "none")
		n := withCopier(none, copierOf(6, true, 2, 3, 3, 4, 5))
		hears(t, []hearing{
			{"its Turn", n, copied(6, 0, 3), withCopier(none, copierOf(6, true, 2, 2, 3, 4, 5)), nil},
			{"its Turn, and Dirty", n, copied(6, 1, 4), withCopier(none, copierOf(6, true, 2, 1, 3, 4, 5)), nil},
			{"does not Wait", n, copied(6, 2, 5), n, nil},
			{"an older Turn", n, copied(6, 0, 2), n, nil},
			{"a newer Turn", n, copied(6, 0, 4), n, nil},
			{"that of another one", n, copied(6, 0, 4), n, nil},
			{"no such block", n, copied(6, 3, 3), n, nil},
			{"an older try", n, copied(5, 0, 3), n, nil},
			{"a newer try", n, copied(7, 0, 3), n, nil},
			{"try 0", n, copied(0, 0, 3), n, nil},
			{"no Copier", none, copied(6, 0, 3), none, nil},
			{"no Copier, try 0", none, copied(0, 0, 0), none, nil},
			{"the last one", withCopier(none, copierOf(6, true, 0, 4, 3, 4, 5)), copied(6, 2, 5), withCopier(none, copierOf(6, true, 0, 0, 3, 4, 5)), nil},
		})
	}
	other := withSink(stateNode(impl.StOther, "none"), sinkOf(6, 3, 4, 5))
	wantHeardStays(t, other, copied(6, 0, 3), 0)
}

func TestMsHandWrittenOut(t *testing.T) {
	none := nodeOf(1, 3, impl.Record{Epoch: 4, State: impl.StOther, Tried: 9, Seen: 6})
	n := withSink(none, sinkOf(6, 1, 7, 2))
	h := held(3, 2, 11, 0, 0, 9, 1)
	hand := func(try, epoch int64) impl.Msg {
		return impl.Msg{To: 1, Kind: impl.MsHand, Try: try, Epoch: epoch, Holding: cloneHolding(h)}
	}
	answer := func(try, epoch int64) []impl.Msg {
		return oneMsg(impl.Msg{To: 0, Kind: impl.MsTaken, Try: try, Epoch: epoch})
	}
	taken := func(n impl.Node, epoch int64) impl.Node {
		want := notedNode(n, impl.Record{Epoch: epoch, State: impl.StOwner, Tried: 9, Seen: 6})
		want.Disk, want.Holding, want.Sink = diskOf(ramp(3, 50), ramp(3, 50)), cloneHolding(h), impl.Sink{}
		return want
	}
	unheld := func(m impl.Msg) impl.Msg { m.Holding = impl.Holding{}; return m }
	hears(t, []hearing{
		{"its Epoch", n, hand(6, 4), taken(n, 5), answer(6, 5)},
		{"an Epoch above", n, hand(6, 5), taken(n, 6), answer(6, 6)},
		{"an Epoch far above", n, hand(6, 99999), taken(n, 100000), answer(6, 100000)},
		{"MaxEpoch", n, hand(6, 100000), n, nil},
		{"an Epoch below", n, hand(6, 3), n, answer(6, 4)},
		{"an Epoch far below", n, hand(6, 0), n, answer(6, 1)},
		{"another try, its Epoch", n, hand(5, 4), n, nil},
		{"another try, an Epoch above", n, hand(7, 5), n, nil},
		{"another try, an Epoch below", n, hand(5, 3), n, answer(5, 4)},
		{"no Sink, its Epoch", none, hand(6, 4), none, nil},
		{"no Sink, its Epoch, try 0", none, hand(0, 4), none, nil},
		{"no Sink, an Epoch above, try 0", none, hand(0, 9), none, nil},
		{"no Sink, an Epoch below", none, hand(6, 3), none, answer(6, 4)},
		{"no Sink, an Epoch below, try 0", none, hand(0, 3), none, answer(0, 4)},
		{"no Holding", n, unheld(hand(6, 4)), n, nil},
		{"no Holding, an Epoch below", n, unheld(hand(6, 3)), n, nil},
		{"what is not told counts for nothing", n, impl.Msg{To: 1, Kind: impl.MsHand, Try: 6, At: 7, Turn: 9, Value: 8, Epoch: 4, Holding: cloneHolding(h)}, taken(n, 5), answer(6, 5)},
	})
	for _, state := range []int64{impl.StOwner, impl.StHanding} {
		for _, shape := range copierShapes {
			n := stateNode(state, shape)
			hears(t, []hearing{
				{"not StOther, its Epoch", n, impl.Msg{Kind: impl.MsHand, Try: 6, Epoch: 4, Holding: h}, n, nil},
				{"not StOther, its Epoch, try 0", n, impl.Msg{Kind: impl.MsHand, Epoch: 4, Holding: h}, n, nil},
				{"not StOther, an Epoch above", n, impl.Msg{Kind: impl.MsHand, Try: 6, Epoch: 5, Holding: h}, n, nil},
				{"not StOther, an Epoch below", n, impl.Msg{Kind: impl.MsHand, Try: 6, Epoch: 3, Holding: h}, n, oneMsg(impl.Msg{To: 1, Kind: impl.MsTaken, Try: 6, Epoch: 4})},
				{"not StOther, an Epoch far below", n, impl.Msg{Kind: impl.MsHand, Try: 2, Epoch: 0, Holding: h}, n, oneMsg(impl.Msg{To: 1, Kind: impl.MsTaken, Try: 2, Epoch: 1})},
				{"not StOther, MaxEpoch", n, impl.Msg{Kind: impl.MsHand, Try: 6, Epoch: 100000, Holding: h}, n, nil},
			})
		}
	}
}

func TestMsTakenAndMsNoWrittenOut(t *testing.T) {
	taken := func(try, epoch int64) impl.Msg { return impl.Msg{Kind: impl.MsTaken, Try: try, Epoch: epoch} }
	no := func(try, epoch int64) impl.Msg { return impl.Msg{Kind: impl.MsNo, Try: try, Epoch: epoch} }
	for _, shape := range copierShapes {
		n := stateNode(impl.StHanding, shape)
		left := func(epoch, state int64) impl.Node {
			want := notedNode(n, impl.Record{Epoch: epoch, State: state, Tried: 6, Seen: 6})
			want.Copier = impl.Copier{}
			return want
		}
		hears(t, []hearing{
			{"taken, 1 above", n, taken(6, 5), left(5, impl.StOther), nil},
			{"taken, far above", n, taken(6, 100000), left(100000, impl.StOther), nil},
			{"taken, its Epoch", n, taken(6, 4), n, nil},
			{"taken, below", n, taken(6, 3), n, nil},
			{"taken, an older try", n, taken(5, 5), n, nil},
			{"taken, a newer try", n, taken(7, 5), n, nil},
			{"taken, try 0", n, taken(0, 5), n, nil},
			{"no", n, no(6, 0), left(4, impl.StOwner), nil},
			{"no, whatever the Epoch", n, no(6, 9), left(4, impl.StOwner), nil},
			{"no, an older try", n, no(5, 0), n, nil},
			{"no, a newer try", n, no(7, 0), n, nil},
			{"no, try 0", n, no(0, 0), n, nil},
		})
		for _, m := range []impl.Msg{taken(6, 5), taken(6, 100000), no(6, 0), no(6, 4)} {
			wantHeardStays(t, stateNode(impl.StOwner, shape), m, 0)
		}
	}
	other := withSink(stateNode(impl.StOther, "none"), sinkOf(6, 3, 4, 5))
	for _, m := range []impl.Msg{taken(6, 5), taken(6, 100000), no(6, 0), no(6, 4)} {
		wantHeardStays(t, other, m, 0)
	}
}

func TestMsCancelWrittenOut(t *testing.T) {
	r := impl.Record{Epoch: 4, State: impl.StOther, Tried: 9, Seen: 6}
	none := nodeOf(1, 3, r)
	n := withSink(none, sinkOf(6, 1, 7, 2))
	cancel := func(try, epoch int64) impl.Msg {
		return impl.Msg{To: 1, Kind: impl.MsCancel, Try: try, Epoch: epoch}
	}
	no := func(try int64) []impl.Msg { return oneMsg(impl.Msg{To: 0, Kind: impl.MsNo, Try: try}) }
	taken := func(try, epoch int64) []impl.Msg {
		return oneMsg(impl.Msg{To: 0, Kind: impl.MsTaken, Try: try, Epoch: epoch})
	}
	seen := func(try int64) impl.Node {
		return notedNode(none, impl.Record{Epoch: 4, State: impl.StOther, Tried: 9, Seen: try})
	}
	blank := nodeOf(1, 3, impl.Record{State: impl.StOther})
	hears(t, []hearing{
		{"Try above Seen", n, cancel(7, 4), seen(7), no(7)},
		{"Try above Seen, no Sink", none, cancel(7, 4), seen(7), no(7)},
		{"Try far above Seen, an Epoch above", n, cancel(100000, 100000), seen(100000), no(100000)},
		{"that of its Sink", n, cancel(6, 4), none, no(6)},
		{"that of its Sink, an Epoch above", n, cancel(6, 5), none, no(6)},
		{"Try is Seen, no Sink", none, cancel(6, 4), none, no(6)},
		{"Try below Seen", n, cancel(5, 4), n, no(5)},
		{"Try below Seen, no Sink", none, cancel(5, 4), none, no(5)},
		{"Try 0", n, cancel(0, 4), n, no(0)},
		{"Try 0, nothing Seen", blank, cancel(0, 0), blank, no(0)},
		{"an Epoch below", n, cancel(6, 3), n, taken(6, 4)},
		{"an Epoch far below, Try above Seen", n, cancel(7, 0), n, taken(7, 1)},
		{"an Epoch below, no Sink", none, cancel(7, 3), none, taken(7, 4)},
		{"a right Holding counts for nothing", n, impl.Msg{To: 1, Kind: impl.MsCancel, Try: 6, Epoch: 4, Holding: held(0, -1, 0, 0, 0, 0, 0)}, none, no(6)},
	})
	for _, state := range []int64{impl.StOwner, impl.StHanding} {
		for _, shape := range copierShapes {
			n := stateNode(state, shape)
			hears(t, []hearing{
				{"not StOther, its Epoch", n, impl.Msg{Kind: impl.MsCancel, Try: 6, Epoch: 4}, n, nil},
				{"not StOther, a newer try", n, impl.Msg{Kind: impl.MsCancel, Try: 7, Epoch: 4}, n, nil},
				{"not StOther, an Epoch above", n, impl.Msg{Kind: impl.MsCancel, Try: 6, Epoch: 5}, n, nil},
				{"not StOther, an Epoch below", n, impl.Msg{Kind: impl.MsCancel, Try: 6, Epoch: 3}, n, oneMsg(impl.Msg{To: 1, Kind: impl.MsTaken, Try: 6, Epoch: 4})},
				{"not StOther, an Epoch far below", n, impl.Msg{Kind: impl.MsCancel, Try: 2, Epoch: 0}, n, oneMsg(impl.Msg{To: 1, Kind: impl.MsTaken, Try: 2, Epoch: 1})},
			})
		}
	}
}

// msgBreaches make a right Msg one that is not, in one thing.
func msgBreaches(m impl.Msg) []impl.Msg {
	list := []impl.Msg{}
	change := func(numbers []int64, set func(*impl.Msg, int64)) {
		for _, n := range numbers {
			broken := m
			set(&broken, n)
			list = append(list, broken)
		}
	}
	change(append([]int64{2, 3, 1 - m.To}, farNumbers...), func(m *impl.Msg, n int64) { m.To = n })
	change(append([]int64{0, 9, 10}, farNumbers...), func(m *impl.Msg, n int64) { m.Kind = n })
	change(notTries, func(m *impl.Msg, n int64) { m.Try = n })
	change(notIndexes, func(m *impl.Msg, n int64) { m.At = n })
	change(notTurns, func(m *impl.Msg, n int64) { m.Turn = n })
	change(notValues, func(m *impl.Msg, n int64) { m.Value = n })
	change(notTries, func(m *impl.Msg, n int64) { m.Epoch = n })
	for k, b := range breaches() {
		if k%97 == 0 && !sameHolding(b.broken, impl.Holding{}) {
			broken := m
			broken.Holding = b.broken
			list = append(list, broken)
		}
	}
	for _, h := range []impl.Holding{{Holder: -1}, {Turn: 1}, {Kind: 1}, {Keys: make([]int64, 4)}, {Keys: []int64{0}}} {
		broken := m
		broken.Holding = h
		list = append(list, broken)
	}
	return list
}

// A Msg that would be heard, with one thing about it that is not right, or not to it: nothing comes of it.
func TestHeardOfNoMsg(t *testing.T) {
	owner, handing := stateNode(impl.StOwner, "closed"), stateNode(impl.StHanding, "clean")
	waits := stateNode(impl.StOwner, "waits")
	other := withSink(stateNode(impl.StOther, "none"), sinkOf(6, 1, 7, 2))
	for _, one := range []struct {
		n impl.Node
		m impl.Msg
	}{
		{other, impl.Msg{Kind: impl.MsBegin, Try: 7}},
		{other, impl.Msg{Kind: impl.MsBegin, Try: 6}},
		{owner, impl.Msg{Kind: impl.MsReady, Try: 6}},
		{other, impl.Msg{Kind: impl.MsCopy, Try: 6, At: 1, Turn: 8, Value: 77}},
		{waits, impl.Msg{Kind: impl.MsCopied, Try: 6, At: 1, Turn: 4}},
		{other, impl.Msg{Kind: impl.MsHand, Try: 6, Epoch: 4, Holding: held(0, -1, 0, 0, 0, 0, 0)}},
		{handing, impl.Msg{Kind: impl.MsTaken, Try: 6, Epoch: 5}},
		{other, impl.Msg{Kind: impl.MsCancel, Try: 6, Epoch: 4}},
		{other, impl.Msg{Kind: impl.MsCancel, Try: 7, Epoch: 4}},
		{handing, impl.Msg{Kind: impl.MsNo, Try: 6}},
	} {
		if _, _, done := impl.Heard(one.n, one.m, 0); !done {
			t.Errorf("%+v is not heard by %s", one.m, showNode(one.n))
		}
		for _, m := range msgBreaches(one.m) {
			for _, torn := range []int64{0, 3} {
				wantHeardStays(t, one.n, m, torn)
			}
		}
	}
}

// A noting is something that is Noted: how the house is, ahead of which nothing else is to be done, and what is to be Noted.
type noting struct {
	what  string
	n     impl.Node
	ahead impl.Node
	r     impl.Record
	call  func(n impl.Node, torn int64) (impl.Node, []impl.Msg, bool)
}

func toldNoting(what string, kind int64, n, ahead impl.Node, r impl.Record) noting {
	return noting{what, n, ahead, r, func(n impl.Node, torn int64) (impl.Node, []impl.Msg, bool) { return impl.Told(n, kind, torn) }}
}

func heardNoting(m impl.Msg, what string, n, ahead impl.Node, r impl.Record) noting {
	return noting{what, n, ahead, r, func(n impl.Node, torn int64) (impl.Node, []impl.Msg, bool) { return impl.Heard(n, m, torn) }}
}

// notings are all that is ever Noted.
func notings() []noting {
	owner, clean, handing := stateNode(impl.StOwner, "none"), stateNode(impl.StOwner, "clean"), stateNode(impl.StHanding, "clean")
	none := stateNode(impl.StOther, "none")
	other := withSink(none, sinkOf(6, 1, 7, 2))
	flushed := func(n impl.Node) impl.Node { return edited(n, func(n *impl.Node) { n.Disk = flushedByHand(n.Disk) }) }
	h := held(3, 2, 11, 0, 0, 9, 1)
	taken := edited(flushed(other), func(n *impl.Node) { n.Holding = h })
	rec := func(epoch, state, tried, seen int64) impl.Record {
		return impl.Record{Epoch: epoch, State: state, Tried: tried, Seen: seen}
	}
	return []noting{
		toldNoting("GoMove", impl.GoMove, owner, owner, rec(4, impl.StOwner, 7, 6)),
		toldNoting("GoHand", impl.GoHand, clean, flushed(clean), rec(4, impl.StHanding, 6, 6)),
		heardNoting(impl.Msg{Kind: impl.MsBegin, Try: 7}, "MsBegin", other, other, rec(4, impl.StOther, 6, 7)),
		heardNoting(impl.Msg{Kind: impl.MsBegin, Try: 100000}, "MsBegin without a Sink", none, none, rec(4, impl.StOther, 6, 100000)),
		heardNoting(impl.Msg{Kind: impl.MsHand, Try: 6, Epoch: 4, Holding: h}, "MsHand", other, taken, rec(5, impl.StOwner, 6, 6)),
		heardNoting(impl.Msg{Kind: impl.MsHand, Try: 6, Epoch: 99999, Holding: h}, "MsHand far above", other, taken, rec(100000, impl.StOwner, 6, 6)),
		heardNoting(impl.Msg{Kind: impl.MsTaken, Try: 6, Epoch: 5}, "MsTaken", handing, handing, rec(5, impl.StOther, 6, 6)),
		heardNoting(impl.Msg{Kind: impl.MsCancel, Try: 7, Epoch: 4}, "MsCancel", other, other, rec(4, impl.StOther, 6, 7)),
		heardNoting(impl.Msg{Kind: impl.MsNo, Try: 6}, "MsNo", handing, handing, rec(4, impl.StOwner, 6, 6)),
	}
}

// wantFell wants one that has fallen as it noted, with this much left of what it noted; and it rises as what was Noted before.
func (one noting) wantFell(t *testing.T, torn int64, left string) {
	t.Helper()
	want := fallenByHand(one.ahead, 0)
	want.Log = one.n.Log + left
	wantSteps(t, fmt.Sprint(one.what, ", torn ", torn), one.n, func(n impl.Node) (impl.Node, []impl.Msg, bool) { return one.call(n, torn) }, want, nil, true)
	if !impl.NodeOk(want) {
		t.Errorf("%s, torn %d: %s is not right", one.what, torn, showNode(want))
	}
	risen := edited(want, func(n *impl.Node) { n.Log, n.Up = one.n.Log, true })
	wantRisen(t, want, risen, true)
	if risen.Record != one.n.Record {
		t.Errorf("%s, torn %d: rises as %v", one.what, torn, risen.Record)
	}
}

func TestWhatFallsAsItIsNoted(t *testing.T) {
	for _, one := range notings() {
		frame := framedByHand(showRecordByHand(one.r))
		for torn := 1; torn <= len(frame); torn++ {
			one.wantFell(t, int64(torn), frame[:len(frame)-torn])
		}
		for _, torn := range []int64{int64(len(frame)) + 1, 1000, 40000, 40001, 1 << 31, 1 << 32, 1<<32 + 1, math.MaxInt64} {
			one.wantFell(t, torn, "")
		}
		after, _, done := one.call(one.n, 0)
		if !done || !after.Up || after.Record != one.r || after.Log != one.n.Log+frame || !impl.NodeOk(after) {
			t.Errorf("%s: %s", one.what, showNode(after))
		}
	}
}

// Where there is no room in the Log all of it is lost, whatever is torn; where there is just room it is Noted.
func TestWhatThereIsNoRoomFor(t *testing.T) {
	t.Parallel()
	for _, one := range notings() {
		frame := framedByHand(showRecordByHand(one.r))
		for size := 40000 - len(frame) - 2; size <= 40000; size++ {
			one.n.Log = paddedLog(size, one.n.Record)
			if len(one.n.Log) != size || !impl.NodeOk(one.n) {
				t.Fatalf("no log of %d bytes", size)
			}
			if size+len(frame) > 40000 {
				for _, torn := range []int64{0, 1, 5, 1000, math.MaxInt64} {
					one.wantFell(t, torn, "")
				}
				continue
			}
			after, _, done := one.call(one.n, 0)
			if !done || !after.Up || after.Record != one.r || after.Log != one.n.Log+frame || !impl.NodeOk(after) {
				t.Errorf("%s: %s", one.what, showNode(after))
			}
			one.wantFell(t, 3, frame[:len(frame)-3])
		}
	}
}

// A Log of MaxFrames has no room either: what was Noted there would not be Recalled, and the house not right any more.
func TestALogOfMaxFramesIsFull(t *testing.T) {
	for _, one := range notings() {
		frame, last := framedByHand(showRecordByHand(one.r)), framedByHand(showRecordByHand(one.n.Record))
		one.n.Log = strings.Repeat(framedByHand(""), 1999) + last
		if !impl.NodeOk(one.n) {
			t.Fatalf("%s is not right", showNode(one.n))
		}
		for _, torn := range []int64{0, 1, 1000} {
			one.wantFell(t, torn, "")
		}
		one.n.Log = strings.Repeat(framedByHand(""), 1998) + last
		after, _, done := one.call(one.n, 0)
		if !done || !after.Up || after.Record != one.r || after.Log != one.n.Log+frame || !impl.NodeOk(after) {
			t.Errorf("%s: %s", one.what, showNode(after))
		}
		one.wantFell(t, 1, frame[:len(frame)-1])
	}
}

// A new house that begins and gives up till its Log is full falls then, and each time again when it has risen.
func TestALogUntilItIsFull(t *testing.T) {
	n, _ := impl.NewNode(0, 2, true)
	noted := 0
	for n.Up {
		frame := framedByHand(showRecordByHand(impl.Record{Epoch: 1, State: impl.StOwner, Tried: n.Record.Tried + 1}))
		room := len(n.Log)+len(frame) <= 40000
		after, msgs, done := impl.Told(n, impl.GoMove, 0)
		if !done || after.Up != room || (len(msgs) == 1) != room || room != (after.Log == n.Log+frame) {
			t.Fatalf("%d noted: %s, %v", noted, showNode(after), msgs)
		}
		if n = after; room {
			n, _, _ = impl.Told(n, impl.GoCancel, 0)
			noted++
		}
	}
	if noted < 1000 || n.Record.Tried != int64(noted) {
		t.Errorf("%d noted, and then %s", noted, showNode(n))
	}
	for range 3 {
		risen, is := impl.Risen(n)
		if !is || !impl.NodeOk(risen) || risen.Log != n.Log {
			t.Fatalf("it rises as %s", showNode(risen))
		}
		wantNodeTold(t, risen, impl.GoMove, 0, n, nil, true)
	}
}

// Each house with each kind and each letter about its Try, its Epoch and its Turns, as told by hand.
func TestEachNodeByHand(t *testing.T) {
	t.Parallel()
	done, stays := map[int64]int{}, map[int64]int{}
	for k, n := range rightNodes() {
		for kind := int64(0); kind <= 7; kind++ {
			for _, torn := range []int64{0, 1, 20, 1000} {
				wantNodeToldByHand(t, n, kind, torn)
			}
		}
		r, blocks := n.Record, int64(len(n.Disk.Now))
		for _, try := range []int64{0, r.Tried - 1, r.Tried, r.Tried + 1, r.Seen - 1, r.Seen + 1} {
			for _, epoch := range []int64{r.Epoch - 1, r.Epoch, r.Epoch + 1} {
				eachLetter(n.Id, try, epoch, func(m impl.Msg) {
					m.At, m.Turn = []int64{0, blocks - 1, blocks}[k%3], int64(k%4+2)
					wantNodeHeardByHand(t, n, m, 0)
					wantNodeHeardByHand(t, n, m, int64(k%40))
					if _, _, is := heardByHand(n, m, 0); is {
						done[m.Kind]++
					} else {
						stays[m.Kind]++
					}
				})
			}
		}
	}
	for kind := int64(1); kind <= 8; kind++ {
		if done[kind] < 10 || stays[kind] < 10 {
			t.Errorf("kind %d: %d heard, %d not", kind, done[kind], stays[kind])
		}
	}
}

// thrownMsg is mostly right, mostly to this house, and about its Tries, its Epoch and its Turns.
func thrownMsg(source *rand.Rand, n impl.Node) impl.Msg {
	r := n.Record
	m := impl.Msg{To: n.Id, Kind: 1 + source.Int63n(8), At: source.Int63n(8), Value: source.Int63n(10000)}
	m.Try = []int64{r.Tried, r.Seen, n.Copier.Try, n.Sink.Try}[source.Intn(4)] + []int64{0, 0, 0, 1, -1}[source.Intn(5)]
	m.Epoch = r.Epoch + []int64{0, 0, 1, 1, -1, 2}[source.Intn(6)]
	if blocks := int64(len(n.Disk.Now)); source.Intn(4) > 0 && blocks > 0 {
		m.At = source.Int63n(blocks)
	}
	if turns := append(append([]int64{}, n.Copier.Turns...), n.Sink.Turns...); m.At < int64(len(turns)) && m.At >= 0 {
		m.Turn = turns[m.At] + source.Int63n(4) - 1
	}
	if m.Kind == impl.MsHand && source.Intn(8) > 0 {
		m.Holding = held(1+source.Int63n(4), 0, source.Int63n(9), 1+source.Int63n(5), source.Int63n(3), 0, 0)
	}
	switch source.Intn(30) {
	case 0:
		m.To = thrownNear(source, 0, 1)
	case 1:
		m.Kind = thrownNear(source, 1, 8)
	case 2:
		m.Try = thrownNear(source, 0, impl.MaxEpoch)
	case 3:
		m.At = thrownNear(source, 0, 7)
	case 4:
		m.Turn = thrownNear(source, 0, impl.MaxTurn)
	case 5:
		m.Value = thrownNear(source, 0, impl.MaxValue)
	case 6:
		m.Epoch = thrownNear(source, 0, impl.MaxEpoch)
	case 7:
		m.Holding = thrownHolding(source)
	}
	return m
}

func thrownTorn(source *rand.Rand) int64 {
	switch source.Intn(12) {
	case 0:
		return 1 + source.Int63n(40)
	case 1:
		return thrownNear(source, 1, 25, 40000)
	}
	return 0
}

func TestNodesThrown(t *testing.T) {
	t.Parallel()
	source := rand.New(rand.NewSource(21))
	right, wrong, told, heard := 0, 0, 0, 0
	for range 60000 {
		n := thrownNode(source)
		if nodeOkByHand(n) {
			right++
		} else {
			wrong++
		}
		if impl.NodeOk(n) != nodeOkByHand(n) {
			t.Fatalf("NodeOk of %s = %v", showNode(n), impl.NodeOk(n))
		}
		kind, torn := thrownNear(source, 1, 3, 5), thrownTorn(source)
		wantNodeToldByHand(t, n, kind, torn)
		if _, _, is := toldByHand(n, kind, torn); is {
			told++
		}
		m := thrownMsg(source, n)
		wantNodeHeardByHand(t, n, m, torn)
		if _, _, is := heardByHand(n, m, torn); is {
			heard++
		}
		wantAskedByHand(t, n, thrownPerson(source), bytesOf(thrownStoreCmd(source)))
	}
	if right < 1000 || wrong < 1000 || told < 1000 || heard < 1000 {
		t.Errorf("%d right, %d wrong, %d told, %d heard of what was thrown", right, wrong, told, heard)
	}
}
