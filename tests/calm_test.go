package tests

import (
	"fmt"
	"slices"
	"strings"
	"testing"

	"loop.example/g00354/impl"
)

// ownerByHand, calmByHand and movedByHand tell the chapter a second time, by loops over acts that are told by hand, too.
func ownerByHand(p impl.Pair) int64 {
	if !pairOkByHand(p) {
		return -1
	}
	return int64(slices.IndexFunc(p.Nodes, func(n impl.Node) bool { return n.Record.State == 1 }))
}

func actedByHand(p impl.Pair, acts ...impl.Act) impl.Pair {
	for _, a := range acts {
		p, _, _ = happenByHand(p, a)
	}
	return p
}

// goesByHand tells a house to do something, and hears all that comes of it.
func goesByHand(p impl.Pair, node, kind int64) impl.Pair {
	p = actedByHand(p, tellOf(node, kind, 0))
	for len(p.Post) > 0 {
		p = actedByHand(p, hearOf(0, 0))
	}
	return p
}

func calmByHand(p impl.Pair) impl.Pair {
	if !pairOkByHand(p) {
		return impl.Pair{}
	}
	p = actedByHand(withPost(p, nil), riseOf(0), riseOf(1))
	for node := range int64(2) {
		if p.Nodes[node].Record.State == 2 {
			p = goesByHand(p, node, 6)
		}
	}
	return p
}

func movedByHand(p impl.Pair) impl.Pair {
	p = calmByHand(p)
	owner := ownerByHand(p)
	if owner < 0 {
		return p
	}
	kinds := append([]int64{6, 1}, filled(len(p.Nodes[0].Disk.Now), 3)...)
	for _, kind := range append(kinds, 4) {
		p = goesByHand(p, owner, kind)
	}
	return p
}

// wantOfPair holds what became of a pair against the given, and wants the pair that was given as it was.
func wantOfPair(t *testing.T, what string, p impl.Pair, call func(impl.Pair) impl.Pair, want impl.Pair) {
	t.Helper()
	before := clonePair(p)
	if got := call(p); !samePair(got, want) {
		t.Errorf("%s of\n%s\n=\n%s, not\n%s", what, showPair(before), showPair(got), showPair(want))
	}
	if !samePair(p, before) {
		t.Errorf("%s of\n%s: it is\n%s now", what, showPair(before), showPair(p))
	}
}

func wantCalm(t *testing.T, what string, p impl.Pair, want impl.Pair) {
	t.Helper()
	wantOfPair(t, what+", Calm", p, impl.Calm, want)
}

func wantMoved(t *testing.T, what string, p impl.Pair, want impl.Pair) {
	t.Helper()
	wantOfPair(t, what+", Moved", p, impl.Moved, want)
}

func wantOwnerOf(t *testing.T, what string, p impl.Pair, want int64) {
	t.Helper()
	before := clonePair(p)
	if got := impl.OwnerOf(p); got != want {
		t.Errorf("%s: OwnerOf of\n%s\n= %d, not %d", what, showPair(before), got, want)
	}
	if !samePair(p, before) {
		t.Errorf("%s: OwnerOf of\n%s: it is\n%s now", what, showPair(before), showPair(p))
	}
}

func wantCalmByHand(t *testing.T, what string, p impl.Pair) {
	t.Helper()
	wantCalm(t, what, p, calmByHand(p))
	wantMoved(t, what, p, movedByHand(p))
	wantOwnerOf(t, what, p, ownerByHand(p))
}

// atEither is a pair that has these two, the first one at the place told, with three letters and four Events that were there before.
func atEither(place int64, first, second impl.Node) impl.Pair {
	nodes := [2]impl.Node{}
	nodes[place], nodes[1-place] = first, second
	return ahead(pairOf(nodes[:]...))
}

func TestOwnerOfEachTwoStates(t *testing.T) {
	for _, row := range []struct{ a, b, want int64 }{
		{impl.StOwner, impl.StOwner, 0}, {impl.StOwner, impl.StHanding, 0}, {impl.StOwner, impl.StOther, 0},
		{impl.StHanding, impl.StOwner, 1}, {impl.StHanding, impl.StHanding, -1}, {impl.StHanding, impl.StOther, -1},
		{impl.StOther, impl.StOwner, 1}, {impl.StOther, impl.StHanding, -1}, {impl.StOther, impl.StOther, -1},
	} {
		for _, aUp := range eachFlag {
			for _, bUp := range eachFlag {
				p := ahead(twoHouses(row.a, row.b))
				p.Nodes[0].Up, p.Nodes[1].Up = aUp, bUp
				what := fmt.Sprintf("States %d and %d, up %v and %v", row.a, row.b, aUp, bUp)
				wantOwnerOf(t, what, p, row.want)
				wantCalmByHand(t, what, p)
				wantOwnerOf(t, what+", an Event too many", withEvents(p, eventsOf(301)), -1)
				wantOwnerOf(t, what+", a Msg too many", withPost(p, postOf(41, 0)), -1)
				wantOwnerOf(t, what+", a Log that is none", editedPair(p, func(p *impl.Pair) { p.Nodes[1].Log = "" }), -1)
				wantOwnerOf(t, what+", the first alone", impl.Pair{Nodes: p.Nodes[:1]}, -1)
				wantOwnerOf(t, what+", the other order", editedPair(p, func(p *impl.Pair) { slices.Reverse(p.Nodes) }), -1)
			}
		}
	}
	wantOwnerOf(t, "the zero Pair", impl.Pair{}, -1)
}

// A calmStep is what Calm makes of a pair of one block behind so many acts of a move there and back, beside an empty post: what it notes, and who lets go of a Sink.
type calmStep struct {
	owner  int64
	copier [2]impl.Copier
	sink   [2]impl.Sink
	record [2]impl.Record
	notes  int64
}

// calmSteps have what Calm tells ahead of all acts, and behind each of them. Where notes is not -1 that house has noted its Record as it came to calm.
func calmSteps() []calmStep {
	rec := func(epoch, state, tried, seen int64) impl.Record {
		return impl.Record{Epoch: epoch, State: state, Tried: tried, Seen: seen}
	}
	first := func(c impl.Copier, s impl.Sink, seen int64) calmStep {
		return calmStep{0, [2]impl.Copier{c, {}}, [2]impl.Sink{{}, s}, [2]impl.Record{rec(1, 1, 1, 0), rec(0, 3, 0, seen)}, -1}
	}
	second := func(c impl.Copier, s impl.Sink, seen int64) calmStep {
		return calmStep{1, [2]impl.Copier{{}, c}, [2]impl.Sink{s, {}}, [2]impl.Record{rec(2, 3, 1, seen), rec(2, 1, 1, 1)}, -1}
	}
	noCopier, noSink := impl.Copier{}, impl.Sink{}
	closed, open := copierOf(1, false, 1, 0, 0), copierOf(1, true, 1, 0, 0)
	waits, clean := copierOf(1, true, 0, 1, 1), copierOf(1, true, 0, 0, 1)
	began, received := sinkOf(1, 0), sinkOf(1, 1)
	taken := [2]impl.Record{rec(2, 3, 1, 0), rec(2, 1, 0, 1)}
	back := [2]impl.Record{rec(3, 1, 1, 1), rec(3, 3, 1, 1)}
	notes := func(s calmStep, house int64) calmStep {
		s.notes = house
		return s
	}
	return []calmStep{
		{0, [2]impl.Copier{}, [2]impl.Sink{}, [2]impl.Record{rec(1, 1, 0, 0), rec(0, 3, 0, 0)}, -1},
		first(closed, noSink, 0), first(closed, began, 1), first(open, began, 1),
		first(waits, began, 1), first(waits, received, 1), first(clean, received, 1),
		notes(first(noCopier, noSink, 1), 0),
		{1, [2]impl.Copier{}, [2]impl.Sink{}, taken, 0}, {1, [2]impl.Copier{}, [2]impl.Sink{}, taken, -1},
		second(closed, noSink, 0), second(closed, began, 1), second(open, began, 1),
		second(waits, began, 1), second(waits, received, 1), second(clean, received, 1),
		notes(second(noCopier, noSink, 1), 1),
		{0, [2]impl.Copier{}, [2]impl.Sink{}, back, 1}, {0, [2]impl.Copier{}, [2]impl.Sink{}, back, -1},
	}
}

// after is what Calm is to make of this pair: each house that was down has no Copier and no Sink, and is up.
func (s calmStep) after(p impl.Pair) impl.Pair {
	return editedPair(p, func(p *impl.Pair) {
		p.Post = nil
		for k := range p.Nodes {
			n := &p.Nodes[k]
			if s.notes == int64(k) {
				*n = notedNode(*n, s.record[k])
			}
			n.Copier, n.Sink = impl.Copier{}, impl.Sink{}
			if n.Up {
				n.Copier, n.Sink = s.copier[k], s.sink[k]
			}
			n.Up, n.Record = true, s.record[k]
		}
	})
}

// strayPosts are letters that came twice, older ones, and ones to whom nobody sent them: none of them is there in calm.
func strayPosts(p impl.Pair) [][]impl.Msg {
	older := letterPost()[:16]
	return [][]impl.Msg{nil, p.Post, append(clonePost(p.Post), p.Post...), older, append(older, p.Post...), letterPost(), postOf(40, 0)}
}

// What lies in the post is gone, whatever it is: begun, ready, copied, acknowledged, handed over or taken, with both up, one down, or both.
func TestCalmBehindEachActOfAMove(t *testing.T) {
	p, _ := impl.NewPair(1)
	p = happened(t, p, askOf(0, 1, bytesOf(registerOf(5))), askOf(0, 1, bytesOf(writeOf(0, 5))))
	moves, steps := movingActs(), calmSteps()
	if len(steps) != len(moves)+1 {
		t.Fatalf("%d steps of %d acts", len(steps), len(moves))
	}
	onTheWay := []string{}
	for k, step := range steps {
		for _, down := range [][]impl.Act{nil, {fallOf(0, 0)}, {fallOf(1, 0)}, {fallOf(0, 1), fallOf(1, 1)}} {
			p := happened(t, p, down...)
			want := step.after(p)
			for _, post := range strayPosts(p) {
				what := fmt.Sprintf("behind %d acts, then %d that fall, with %d Msgs", k, len(down), len(post))
				wantCalm(t, what, withPost(p, post), want)
				wantOwnerOf(t, what, impl.Calm(withPost(p, post)), step.owner)
				wantCalmByHand(t, what, withPost(p, post))
			}
		}
		for _, m := range p.Post {
			onTheWay = append(onTheWay, fmt.Sprint(m.Kind))
		}
		if k < len(moves) {
			p = happened(t, p, moves[k])
		}
	}
	if got := strings.Join(onTheWay, " "); got != "1 2 3 4 5 6 1 2 3 4 5 6" {
		t.Errorf("on the way were %s", got)
	}
}

// What a house had half noted as it fell is cut off as it rises in calm, and what the other one noted stays.
func TestCalmOfALogThatIsTorn(t *testing.T) {
	for torn := int64(1); torn < 25; torn++ {
		p, _ := impl.NewPair(1)
		p = happened(t, p, tellOf(0, impl.GoMove, torn))
		want, _ := impl.NewPair(1)
		want.Events = []impl.Event{lossEvent(0)}
		wantCalm(t, fmt.Sprint("torn ", torn), p, want)
		wantCalm(t, "up again", happened(t, p, riseOf(0)), want)
		p = happened(t, want, tellOf(0, impl.GoMove, 0), hearOf(0, torn))
		if p.Nodes[1].Up || impl.Calm(p).Nodes[1].Log != want.Nodes[1].Log {
			t.Errorf("torn %d: in calm it is\n%s", torn, showPair(impl.Calm(p)))
		}
	}
}

// A handingRow is what becomes in calm of a house of Epoch 4 that hands over with try 6, beside another one: what either of them notes then.
type handingRow struct {
	what  string
	other impl.Node
	// notes are of the one that hands over, then of the other one; one of Epoch -1 is not noted.
	notes    [2]impl.Record
	endsSink bool
}

func recordOf(epoch, state, tried, seen int64) impl.Record {
	return impl.Record{Epoch: epoch, State: state, Tried: tried, Seen: seen}
}

var noNote = recordOf(-1, 0, 0, 0)

// otherOf has three blocks, a Record of its own, and a Sink of the try that it has seen, or none.
func otherOf(r impl.Record, receives bool) impl.Node {
	n := nodeOf(1, 3, r)
	n.Disk, n.Holding = diskOf(ramp(3, 15), ramp(3, 60)), held(6, -1, 4, 0, 6, 8, 0)
	if receives {
		n.Sink = sinkOf(r.Seen, 1, 7, 2)
	}
	return n
}

func handingRows() []handingRow {
	owns, gives := recordOf(4, 1, 6, 6), recordOf(5, 3, 6, 6)
	withTry := withCopier(otherOf(recordOf(5, 1, 6, 6), false), copierShape("waits", 3, 6))
	return []handingRow{
		{"knows of the try", otherOf(recordOf(4, 3, 6, 6), true), [2]impl.Record{owns, noNote}, true},
		{"knew of the try, and fell", otherOf(recordOf(4, 3, 6, 6), false), [2]impl.Record{owns, noNote}, false},
		{"knows nothing of the try", otherOf(recordOf(4, 3, 6, 5), false), [2]impl.Record{owns, recordOf(4, 3, 6, 6)}, false},
		{"knows an older try", otherOf(recordOf(4, 3, 6, 5), true), [2]impl.Record{owns, recordOf(4, 3, 6, 6)}, true},
		{"knows nothing at all", otherOf(recordOf(0, 3, 0, 0), false), [2]impl.Record{owns, recordOf(0, 3, 0, 6)}, false},
		{"knows a newer try", otherOf(recordOf(4, 3, 6, 7), true), [2]impl.Record{owns, noNote}, false},
		{"took it", otherOf(recordOf(5, 1, 6, 6), false), [2]impl.Record{gives, noNote}, false},
		{"took it, and copies", withTry, [2]impl.Record{gives, noNote}, false},
		{"took it long ago", otherOf(recordOf(9, 1, 6, 6), false), [2]impl.Record{gives, noNote}, false},
		{"took it, and gave it on", otherOf(recordOf(6, 3, 6, 6), true), [2]impl.Record{gives, noNote}, false},
		{"owns it in the same Epoch", otherOf(recordOf(4, 1, 6, 6), false), [2]impl.Record{noNote, noNote}, false},
		{"owns it in an older Epoch", otherOf(recordOf(1, 1, 6, 5), false), [2]impl.Record{noNote, noNote}, false},
		{"hands over in the same Epoch, too", otherOf(recordOf(4, 2, 6, 6), false), [2]impl.Record{noNote, noNote}, false},
	}
}

// after is what Calm is to make of the pair that has these two, the one that hands over at the place told.
func (row handingRow) after(p impl.Pair, place int64) impl.Pair {
	return editedPair(p, func(p *impl.Pair) {
		p.Post = nil
		for k, r := range row.notes {
			at := (place + int64(k)) % 2
			p.Nodes[at].Up = true
			if r != noNote {
				p.Nodes[at] = notedNode(p.Nodes[at], r)
			}
		}
		if row.notes[0] != noNote {
			p.Nodes[place].Copier = impl.Copier{}
		}
		if row.endsSink {
			p.Nodes[1-place].Sink = impl.Sink{}
		}
	})
}

// Who hands over gives up: it owns again, or lets go of what was taken, or stays as it is where nobody answers.
func TestCalmOfOneThatHandsOver(t *testing.T) {
	for _, row := range handingRows() {
		for place := range int64(2) {
			for _, copier := range []string{"none", "clean", "waits"} {
				p := atEither(place, stateNode(impl.StHanding, copier), row.other)
				what := fmt.Sprintf("the other one %s, Copier %s, at %d", row.what, copier, place)
				wantCalm(t, what, p, row.after(p, place))
				wantCalmByHand(t, what, p)
			}
			down := atEither(place, fallenByHand(stateNode(impl.StHanding, "none"), 0), row.other)
			wantCalm(t, row.what+", it was down", down, row.after(down, place))
			if row.other.Record.State == impl.StOther {
				down = atEither(place, stateNode(impl.StHanding, "clean"), fallenByHand(row.other, 2))
				wantCalm(t, row.what+", the other one was down", down, row.after(down, place))
			}
		}
	}
}

// Of two that hand over the first one gives up ahead of the second one, and each of them once.
func TestCalmOfTwoThatHandOver(t *testing.T) {
	later, earlier := otherOf(recordOf(5, 2, 6, 6), false), stateNode(impl.StHanding, "clean")
	p := atEither(0, earlier, later)
	wantCalm(t, "the older one first", p, editedPair(p, func(p *impl.Pair) {
		p.Post = nil
		p.Nodes[0] = notedNode(withCopier(p.Nodes[0], impl.Copier{}), recordOf(5, 3, 6, 6))
		p.Nodes[1] = notedNode(p.Nodes[1], recordOf(5, 1, 6, 6))
	}))
	p = atEither(1, earlier, later)
	wantCalm(t, "the newer one first", p, editedPair(p, func(p *impl.Pair) {
		p.Post = nil
		p.Nodes[1] = notedNode(withCopier(p.Nodes[1], impl.Copier{}), recordOf(5, 3, 6, 6))
	}))
}

// Where nobody hands over the post is empty and both are up, and nothing else is another one.
func TestCalmOfNoneThatHandsOver(t *testing.T) {
	firsts := []impl.Node{otherOf(recordOf(4, 3, 6, 6), false), otherOf(recordOf(4, 3, 6, 6), true)}
	for _, shape := range copierShapes {
		firsts = append(firsts, stateNode(impl.StOwner, shape))
	}
	for _, first := range firsts {
		for _, second := range []impl.Node{otherOf(recordOf(4, 3, 6, 7), true), otherOf(recordOf(9, 3, 0, 0), false), withCopier(otherOf(recordOf(2, 1, 6, 6), false), copierShape("dirty", 3, 6))} {
			for place := range int64(2) {
				p := atEither(place, first, second)
				want := withPost(p, nil)
				wantCalm(t, "nobody hands over", p, want)
				wantCalm(t, "nobody hands over, nothing in the post", want, want)
				for k := range p.Nodes {
					down := editedPair(p, func(p *impl.Pair) { p.Nodes[k] = fallenByHand(p.Nodes[k], 5) })
					up := editedPair(down, func(p *impl.Pair) { p.Nodes[k].Up, p.Post = true, nil })
					wantCalm(t, fmt.Sprint("nobody hands over, down was ", k), down, up)
				}
			}
		}
	}
}

// fullLog has the Log that r is the last record of, with room for so many bytes more.
func fullLog(n impl.Node, room int) impl.Node {
	return edited(n, func(n *impl.Node) { n.Log = paddedLog(40000-room, n.Record) })
}

// manyFrames has as many frames as a Log may have: it is full, though short.
func manyFrames(n impl.Node) impl.Node {
	return edited(n, func(n *impl.Node) {
		n.Log = strings.Repeat(framedByHand("f"), 1999) + framedByHand(showRecordByHand(n.Record))
	})
}

// Where there is no room to note, who would note falls, and nothing more is told: no Event comes of one that does not own.
func TestCalmWhereTheLogIsFull(t *testing.T) {
	t.Parallel()
	for _, full := range []func(impl.Node) impl.Node{manyFrames, func(n impl.Node) impl.Node { return fullLog(n, 0) }, func(n impl.Node) impl.Node { return fullLog(n, 20) }} {
		for place := range int64(2) {
			handing := stateNode(impl.StHanding, "clean")
			p := atEither(place, handing, full(otherOf(recordOf(4, 3, 6, 5), true)))
			wantCalm(t, "the other one is full", p, editedPair(p, func(p *impl.Pair) {
				p.Post, p.Nodes[1-place] = nil, fallenByHand(p.Nodes[1-place], 0)
			}))
			p = atEither(place, full(handing), otherOf(recordOf(4, 3, 6, 6), true))
			wantCalm(t, "the one that gives up is full", p, editedPair(p, func(p *impl.Pair) {
				p.Post, p.Nodes[place] = nil, fallenByHand(p.Nodes[place], 0)
				p.Nodes[1-place].Sink = impl.Sink{}
			}))
			p = atEither(place, full(handing), otherOf(recordOf(5, 1, 6, 6), false))
			wantCalm(t, "the one that lets go is full", p, editedPair(p, func(p *impl.Pair) {
				p.Post, p.Nodes[place] = nil, fallenByHand(p.Nodes[place], 0)
			}))
			p = atEither(place, full(handing), full(otherOf(recordOf(4, 3, 6, 6), true)))
			wantCalmByHand(t, "both are full", p)
		}
	}
}

// The last Epoch and the last try are given up as others are.
func TestCalmAtTheLimits(t *testing.T) {
	most := int64(impl.MaxEpoch)
	for place := range int64(2) {
		handing := nodeOf(0, 3, recordOf(most, 2, most, most))
		p := atEither(place, handing, otherOf(recordOf(most, 3, most, most), true))
		wantCalm(t, "the last Epoch", p, editedPair(p, func(p *impl.Pair) {
			p.Post, p.Nodes[1-place].Sink = nil, impl.Sink{}
			p.Nodes[place] = notedNode(p.Nodes[place], recordOf(most, 1, most, most))
		}))
		p = atEither(place, nodeOf(0, 3, recordOf(most-1, 2, most, 0)), otherOf(recordOf(most, 1, 0, most), false))
		wantCalm(t, "the last Epoch was taken", p, editedPair(p, func(p *impl.Pair) {
			p.Post = nil
			p.Nodes[place] = notedNode(p.Nodes[place], recordOf(most, 3, most, 0))
		}))
		p = atEither(place, nodeOf(0, 3, recordOf(4, 2, most, 0)), otherOf(recordOf(4, 3, 0, most-1), true))
		wantCalm(t, "the last try", p, editedPair(p, func(p *impl.Pair) {
			p.Post, p.Nodes[1-place].Sink = nil, impl.Sink{}
			p.Nodes[1-place] = notedNode(p.Nodes[1-place], recordOf(4, 3, 0, most))
			p.Nodes[place] = notedNode(p.Nodes[place], recordOf(4, 1, most, 0))
		}))
		wantCalm(t, "300 Events", withEvents(p, eventsOf(300)), withEvents(calmByHand(p), eventsOf(300)))
	}
}
