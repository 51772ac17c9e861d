package tests

import (
	"fmt"
	"slices"
	"testing"

	"loop.example/g00354/impl"
)

// movedOwner is what becomes of one that owns as it is moved: it is kept, and noted with its Epoch and its try.
func movedOwner(n impl.Node, records ...impl.Record) impl.Node {
	n = edited(n, func(n *impl.Node) { n.Disk, n.Copier = flushedByHand(n.Disk), impl.Copier{} })
	for _, r := range records {
		n = notedNode(n, r)
	}
	return n
}

// movedOther is what becomes of the other one: it has what the owner has.
func movedOther(n, owner impl.Node, records ...impl.Record) impl.Node {
	n = edited(n, func(n *impl.Node) {
		n.Disk, n.Holding, n.Sink = flushedByHand(owner.Disk), cloneHolding(owner.Holding), impl.Sink{}
	})
	for _, r := range records {
		n = notedNode(n, r)
	}
	return n
}

// wantMovedOver wants the owner, of Epoch 4 and Tried 6, to have given it to the other one, of Epoch 4 or less, Tried 6 and Seen as told.
func wantMovedOver(t *testing.T, what string, place int64, owner, other impl.Node) {
	t.Helper()
	p := atEither(place, owner, other)
	r := other.Record
	tried, handed, gave := recordOf(4, 1, 7, 6), recordOf(4, 2, 7, 6), recordOf(5, 3, 7, 6)
	wantMoved(t, what, p, editedPair(p, func(p *impl.Pair) {
		first, second := p.Nodes[place], p.Nodes[1-place]
		p.Nodes[place] = movedOwner(first, tried, handed, gave)
		p.Nodes[1-place] = movedOther(second, first, recordOf(r.Epoch, 3, r.Tried, 7), recordOf(5, 1, r.Tried, 7))
		p.Nodes[place].Up, p.Nodes[1-place].Up = true, true
		p.Post, p.Events = nil, append(p.Events, keepEvent)
	}))
	wantCalmByHand(t, what, p)
}

// What is copied at the owner is dropped, be it nothing, some or all of the blocks; what the other one receives is, too; and it is moved by a try of its own.
func TestMovedWhereATryIsOpen(t *testing.T) {
	others := []impl.Node{
		otherOf(recordOf(4, 3, 6, 6), false), otherOf(recordOf(4, 3, 6, 6), true), otherOf(recordOf(4, 3, 2, 5), true),
		otherOf(recordOf(0, 3, 0, 0), false), otherOf(recordOf(3, 3, 100000, 1), true),
	}
	for place := range int64(2) {
		for k, other := range others {
			for _, shape := range copierShapes {
				what := fmt.Sprintf("Copier %s at %d, other one %d", shape, place, k)
				wantMovedOver(t, what, place, stateNode(impl.StOwner, shape), other)
			}
			down := fallenByHand(stateNode(impl.StOwner, "none"), 2)
			wantMovedOver(t, "the owner was down", place, down, other)
			wantMovedOver(t, "both were down", place, down, fallenByHand(other, 0))
			wantMovedOver(t, "the other one was down", place, stateNode(impl.StOwner, "waits"), fallenByHand(other, 1))
		}
	}
}

// copiedSome is a new pair with values in its blocks, of which the first ones were kept, and so many were copied in a try that is open.
func copiedSome(t *testing.T, blocks int64, copied int64) impl.Pair {
	t.Helper()
	p, _ := impl.NewPair(blocks)
	p = happened(t, p, askOf(0, 1, bytesOf(registerOf(5))), askOf(0, 1, bytesOf(reserveOf(impl.KiRegWrite))))
	for at := range blocks {
		p = happened(t, p, askOf(0, 1, bytesOf(writeOf(at, 30+at))))
		if at == blocks/2 {
			p = happened(t, p, askOf(0, 1, bytesOf(syncCmd)))
		}
	}
	if copied < 0 {
		return p
	}
	p = carryAll(t, happened(t, p, tellOf(0, impl.GoMove, 0)))
	for range copied {
		p = carryAll(t, happened(t, p, tellOf(0, impl.GoCopy, 0)))
	}
	return p
}

// Of 1 to 8 blocks all go, however many were copied ahead of that, and nothing is left of the try: written out as a new pair's Records.
func TestMovedOfEachNumberOfBlocks(t *testing.T) {
	for blocks := int64(1); blocks <= 8; blocks++ {
		for copied := int64(-1); copied <= blocks; copied++ {
			p := copiedSome(t, blocks, copied)
			try := min(copied, 0) + 2
			rows, h := ramp(int(blocks), 30), held(3, 1, 1, 0, 5, 0, 0)
			logs := [2]string{framedByHand("record 1 1 0 0"), framedByHand("record 0 3 0 0")}
			for k := int64(1); k <= try; k++ {
				logs[0] += framedByHand(fmt.Sprintf("record 1 1 %d 0", k))
				logs[1] += framedByHand(fmt.Sprintf("record 0 3 0 %d", k))
			}
			logs[0] += framedByHand(fmt.Sprintf("record 1 2 %d 0", try)) + framedByHand(fmt.Sprintf("record 2 3 %d 0", try))
			logs[1] += framedByHand(fmt.Sprintf("record 2 1 0 %d", try))
			want := impl.Pair{Nodes: []impl.Node{
				{Id: 0, Up: true, Disk: diskOf(rows, rows), Holding: h, Log: logs[0], Record: recordOf(2, impl.StOther, try, 0)},
				{Id: 1, Up: true, Disk: diskOf(rows, rows), Holding: h, Log: logs[1], Record: recordOf(2, impl.StOwner, 0, try)},
			}, Events: append(slices.Clone(p.Events), keepEvent)}
			what := fmt.Sprintf("%d blocks, %d copied", blocks, copied)
			wantMoved(t, what, p, want)
			wantOwnerOf(t, what, want, 1)
			wantAgreed(t, what, want, true)
		}
	}
}

// Moved there and back, and there again: the Epoch is one more each time, and each house's try is its own.
func TestMovedAgainAndAgain(t *testing.T) {
	p := copiedSome(t, 3, -1)
	events := slices.Clone(p.Events)
	for times := int64(1); times <= 12; times++ {
		before := p
		p = impl.Moved(p)
		events = append(events, keepEvent)
		owner, first, second := times%2, (times+1)/2, times/2
		records := [2]impl.Record{recordOf(times+1, impl.StOther, first, second), recordOf(times+1, impl.StOwner, second, first)}
		if owner == 0 {
			records[0].State, records[1].State = impl.StOwner, impl.StOther
		}
		if impl.OwnerOf(p) != owner || p.Nodes[0].Record != records[0] || p.Nodes[1].Record != records[1] || !slices.Equal(p.Events, events) {
			t.Fatalf("moved %d times, from\n%s\nto\n%s", times, showPair(before), showPair(p))
		}
		for _, n := range p.Nodes {
			if !slices.Equal(n.Disk.Kept, ramp(3, 30)) || !slices.Equal(n.Disk.Now, ramp(3, 30)) || !sameHolding(n.Holding, held(3, 1, 1, 0, 5, 0, 0)) {
				t.Fatalf("moved %d times: it is\n%s", times, showPair(p))
			}
		}
		wantAgreed(t, "moved", p, true)
	}
}

// What was handed over, and is given up or was taken in calm, is moved from where it is then.
func TestMovedWhereItIsHandedOver(t *testing.T) {
	for _, row := range handingRows() {
		for place := range int64(2) {
			p := atEither(place, stateNode(impl.StHanding, "clean"), row.other)
			calm := row.after(p, place)
			wantMoved(t, "the other one "+row.what, p, movedByHand(calm))
			owners := [2]int64{calm.Nodes[0].Record.State, calm.Nodes[1].Record.State}
			switch owner := slices.Index(owners[:], int64(impl.StOwner)); {
			case owner < 0:
				wantMoved(t, "nobody owns, the other one "+row.what, p, calm)
			case row.notes[0] == recordOf(4, 1, 6, 6):
				wantOwnerOf(t, row.what, impl.Moved(p), 1-place)
			case row.notes[0] == recordOf(5, 3, 6, 6):
				wantOwnerOf(t, row.what, impl.Moved(p), place)
			default:
				wantOwnerOf(t, row.what, impl.Moved(p), int64(owner))
			}
		}
	}
}

// Where nobody owns in calm nothing is moved: what is there stays as it is in calm.
func TestMovedWhereNobodyOwns(t *testing.T) {
	other := otherOf(recordOf(4, 3, 6, 6), true)
	for place := range int64(2) {
		for _, p := range []impl.Pair{
			atEither(place, stateNode(impl.StOther, "none"), other),
			atEither(place, fallenByHand(stateNode(impl.StOther, "none"), 0), other),
			atEither(place, stateNode(impl.StHanding, "clean"), otherOf(recordOf(4, 2, 6, 6), false)),
			atEither(place, stateNode(impl.StHanding, "clean"), otherOf(recordOf(5, 3, 6, 6), true)),
			atEither(place, fullLog(stateNode(impl.StHanding, "clean"), 3), other),
		} {
			wantMoved(t, "nobody owns", p, calmByHand(p))
			wantOwnerOf(t, "nobody owns", impl.Moved(p), -1)
		}
	}
}

// Of two that own, the first one's is dropped and begun, and the other one heeds nothing of it.
func TestMovedWhereBothOwn(t *testing.T) {
	for _, shape := range copierShapes {
		p := ahead(pairOf(stateNode(impl.StOwner, shape), withCopier(otherOf(recordOf(7, 1, 6, 6), false), copierShape("dirty", 3, 6))))
		wantMoved(t, "both own", p, editedPair(p, func(p *impl.Pair) {
			p.Post = nil
			p.Nodes[0] = notedNode(p.Nodes[0], recordOf(4, 1, 7, 6))
			p.Nodes[0].Copier = copierOf(7, false, 7, 0, 0, 0, 0)
		}))
	}
}

// Where a number is at its limit it stays where that is met: not tried, not heard, not taken.
func TestMovedAtTheLimits(t *testing.T) {
	most := int64(impl.MaxEpoch)
	for place := range int64(2) {
		owner := func(epoch, tried int64) impl.Node {
			return withCopier(nodeOf(0, 3, recordOf(epoch, 1, tried, 6)), copierShape("waits", 3, tried))
		}
		p := atEither(place, owner(4, most), otherOf(recordOf(4, 3, 6, 5), true))
		wantMoved(t, "the last try", p, editedPair(p, func(p *impl.Pair) {
			p.Post, p.Nodes[place].Copier = nil, impl.Copier{}
		}))
		p = atEither(place, owner(4, most-1), otherOf(recordOf(4, 3, 6, 5), true))
		wantOwnerOf(t, "the last but one", impl.Moved(p), 1-place)
		p = atEither(place, owner(4, 6), otherOf(recordOf(4, 3, 6, 7), false))
		wantMoved(t, "a try that was seen", p, editedPair(p, func(p *impl.Pair) {
			p.Post = nil
			p.Nodes[place] = notedNode(p.Nodes[place], recordOf(4, 1, 7, 6))
			p.Nodes[place].Copier = copierOf(7, false, 7, 0, 0, 0, 0)
		}))
		copied := func(p *impl.Pair) {
			p.Post, p.Events = nil, append(p.Events, keepEvent)
			p.Nodes[1-place].Disk.Now = slices.Clone(p.Nodes[place].Disk.Now)
			p.Nodes[place].Disk = flushedByHand(p.Nodes[place].Disk)
		}
		p = atEither(place, owner(most, 6), otherOf(recordOf(4, 3, 6, 5), false))
		wantMoved(t, "the last Epoch", p, editedPair(p, func(p *impl.Pair) {
			copied(p)
			p.Nodes[place] = notedNode(notedNode(p.Nodes[place], recordOf(most, 1, 7, 6)), recordOf(most, 2, 7, 6))
			p.Nodes[place].Copier = copierOf(7, true, 0, 0, 1, 1, 1)
			p.Nodes[1-place] = notedNode(p.Nodes[1-place], recordOf(4, 3, 6, 7))
			p.Nodes[1-place].Sink = sinkOf(7, 1, 1, 1)
		}))
		p = atEither(place, owner(most-1, 6), otherOf(recordOf(most-1, 3, 6, 5), false))
		wantOwnerOf(t, "the last Epoch but one", impl.Moved(p), 1-place)
		p = atEither(place, owner(4, 6), otherOf(recordOf(6, 3, 6, 5), false))
		wantMoved(t, "the other one is of a newer Epoch", p, editedPair(p, func(p *impl.Pair) {
			copied(p)
			p.Nodes[place] = movedOwner(p.Nodes[place], recordOf(4, 1, 7, 6), recordOf(4, 2, 7, 6), recordOf(5, 3, 7, 6))
			p.Nodes[1-place] = notedNode(p.Nodes[1-place], recordOf(6, 3, 6, 7))
			p.Nodes[1-place].Sink = sinkOf(7, 1, 1, 1)
		}))
	}
}

// A fullRow is what becomes of a pair of which one house has room for so many records more: who is down, who owns, and the Events that came.
type fullRow struct {
	atOwner bool
	room    int
	up      [2]bool
	states  [2]int64
	owner   int64
	events  []impl.Event
}

// fullRows tell of the owner first.
func fullRows() []fullRow {
	loss, keep, both := []impl.Event{lossEvent(0)}, []impl.Event{keepEvent}, []impl.Event{keepEvent, lossEvent(0)}
	return []fullRow{
		{true, 0, [2]bool{false, true}, [2]int64{1, 3}, 0, loss},
		{true, 1, [2]bool{false, true}, [2]int64{1, 3}, 0, both},
		{true, 2, [2]bool{false, true}, [2]int64{2, 1}, 1, keep},
		{true, 3, [2]bool{true, true}, [2]int64{3, 1}, 1, keep},
		{false, 0, [2]bool{true, false}, [2]int64{1, 3}, 0, nil},
		{false, 1, [2]bool{true, false}, [2]int64{2, 3}, -1, keep},
		{false, 2, [2]bool{true, true}, [2]int64{3, 1}, 1, keep},
	}
}

// roomFor is a pair of which one house, the owner at this place or the other one, has a Log with room for so many records.
func roomFor(place int64, row fullRow, full func(n impl.Node, records int) impl.Node) impl.Pair {
	owner, other := stateNode(impl.StOwner, "clean"), otherOf(recordOf(4, 3, 6, 5), true)
	if row.atOwner {
		owner = full(owner, row.room)
	} else {
		other = full(other, row.room)
	}
	return atEither(place, owner, other)
}

// Where there is no room to note, who would note falls, and what it owned is lost up to there; it is told as Happen tells it.
func TestMovedWhereTheLogIsFull(t *testing.T) {
	t.Parallel()
	bytes := func(n impl.Node, records int) impl.Node {
		return fullLog(n, len(framedByHand("record 4 1 6 6"))*records+5)
	}
	frames := func(n impl.Node, records int) impl.Node {
		return edited(manyFrames(n), func(n *impl.Node) { n.Log = n.Log[len(framedByHand("f"))*records:] })
	}
	for _, row := range fullRows() {
		for place := range int64(2) {
			for k, full := range []func(impl.Node, int) impl.Node{bytes, frames} {
				p := roomFor(place, row, full)
				got := impl.Moved(p)
				if int64(k) == place {
					wantMoved(t, "full", p, movedByHand(p))
				}
				for k := range int64(2) {
					n := got.Nodes[(place+k)%2]
					if n.Up != row.up[k] || n.Record.State != row.states[k] {
						t.Errorf("%+v, owner at %d:\n%s", row, place, showPair(got))
					}
				}
				owner := row.owner
				if owner >= 0 {
					owner = (place + owner) % 2
				}
				wantOwnerOf(t, "full", got, owner)
				if len(got.Post) > 0 || !slices.Equal(got.Events, append(eventsOf(4), row.events...)) {
					t.Errorf("%+v, owner at %d:\n%s", row, place, showPair(got))
				}
			}
		}
	}
}

// The same, written out where the owner falls as it begins, and as it hands over: what it had not kept is lost ahead of that, and kept behind it.
func TestMovedFallsAsItNotes(t *testing.T) {
	for place := range int64(2) {
		p := atEither(place, fullLog(stateNode(impl.StOwner, "waits"), 20), otherOf(recordOf(4, 3, 6, 6), true))
		wantMoved(t, "falls as it begins", p, editedPair(p, func(p *impl.Pair) {
			p.Post, p.Events = nil, append(p.Events, lossEvent(0))
			p.Nodes[place] = fallenByHand(p.Nodes[place], 0)
		}))
		p = atEither(place, fullLog(stateNode(impl.StOwner, "waits"), 30), otherOf(recordOf(4, 3, 6, 6), true))
		wantMoved(t, "falls as it hands over", p, editedPair(p, func(p *impl.Pair) {
			p.Post, p.Events = nil, append(p.Events, keepEvent, lossEvent(0))
			p.Nodes[1-place] = notedNode(p.Nodes[1-place], recordOf(4, 3, 6, 7))
			p.Nodes[1-place].Sink, p.Nodes[1-place].Disk.Now = sinkOf(7, 1, 1, 1), slices.Clone(p.Nodes[place].Disk.Now)
			p.Nodes[place] = notedNode(fallenByHand(p.Nodes[place], 255), recordOf(4, 1, 7, 6))
		}))
	}
}

// Where there is no room for an Event what would bring it is not done, and all else is.
func TestMovedWhereThereIsNoRoomForEvents(t *testing.T) {
	t.Parallel()
	other := otherOf(recordOf(4, 3, 6, 6), true)
	for _, row := range []struct {
		what   string
		owner  impl.Node
		events []impl.Event
	}{
		{"falls as it begins", fullLog(stateNode(impl.StOwner, "waits"), 20), []impl.Event{lossEvent(0)}},
		{"falls as it hands over", fullLog(stateNode(impl.StOwner, "waits"), 30), []impl.Event{keepEvent, lossEvent(0)}},
		{"hands over", stateNode(impl.StOwner, "waits"), []impl.Event{keepEvent}},
	} {
		for n := 297; n <= 300; n++ {
			for place := range int64(2) {
				p := withEvents(atEither(place, row.owner, other), eventsOf(n))
				what := fmt.Sprintf("%s, %d Events", row.what, n)
				got, want := impl.Moved(p), slices.Concat(eventsOf(n), row.events)
				isDone := len(want) <= 300
				if !isDone {
					want = eventsOf(n)
				}
				if !slices.Equal(got.Events, want) || len(got.Post) > 0 {
					t.Errorf("%s:\n%s", what, showPair(got))
				}
				if owner := got.Nodes[place]; !isDone && (!owner.Up || owner.Record.State != impl.StOwner || !sameDisk(owner.Disk, p.Nodes[place].Disk)) {
					t.Errorf("%s: it is\n%s", what, showPair(got))
				}
				if n%2 == int(place) || len(row.owner.Log) < 1000 {
					wantMoved(t, what, p, movedByHand(p))
				}
			}
		}
	}
	p := withEvents(atEither(0, stateNode(impl.StOwner, "waits"), other), eventsOf(300))
	wantMoved(t, "300 Events", p, editedPair(p, func(p *impl.Pair) {
		p.Post = nil
		p.Nodes[0] = notedNode(p.Nodes[0], recordOf(4, 1, 7, 6))
		p.Nodes[0].Copier = copierOf(7, true, 0, 0, 1, 1, 1)
		p.Nodes[1] = notedNode(p.Nodes[1], recordOf(4, 3, 6, 7))
		p.Nodes[1].Sink, p.Nodes[1].Disk.Now = sinkOf(7, 1, 1, 1), slices.Clone(p.Nodes[0].Disk.Now)
	}))
}
