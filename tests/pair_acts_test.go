package tests

import (
	"math"
	"math/rand"
	"slices"
	"strings"
	"testing"

	"loop.example/g00354/impl"
)

// ahead puts some letters and Events there that were there before.
func ahead(p impl.Pair) impl.Pair { return withEvents(withPost(p, postOf(3, 500)), eventsOf(4)) }

// changed has another house in its place, and these letters and Events at the end.
func changed(p impl.Pair, n impl.Node, msgs []impl.Msg, events ...impl.Event) impl.Pair {
	return editedPair(p, func(p *impl.Pair) {
		p.Nodes[n.Id] = cloneNode(n)
		p.Post = append(p.Post, clonePost(msgs)...)
		p.Events = append(p.Events, events...)
	})
}

func askOf(node, who int64, bytes string) impl.Act {
	return impl.Act{Kind: impl.AcAsk, Node: node, Who: who, Bytes: bytes}
}

func tellOf(node, kind, torn int64) impl.Act {
	return impl.Act{Kind: impl.AcTold, Node: node, N: kind, Torn: torn}
}

func hearOf(n, torn int64) impl.Act { return impl.Act{Kind: impl.AcHear, N: n, Torn: torn} }

func fallOf(node, set int64) impl.Act { return impl.Act{Kind: impl.AcFall, Node: node, N: set} }

func riseOf(node int64) impl.Act { return impl.Act{Kind: impl.AcRise, Node: node} }

var keepEvent = impl.Event{Kind: impl.EvKeep}

func lossEvent(set int64) impl.Event { return impl.Event{Kind: impl.EvLoss, Set: set} }

// What an owner answers is an Event, with who asked, what, and what was told.
func TestAskOfAnOwner(t *testing.T) {
	n := houseOf(0, impl.StOwner, "clean")
	for node := range int64(2) {
		n := edited(n, func(n *impl.Node) { n.Id = node })
		p := pairOf(n, n)
		if p.Nodes[1-node] = houseOf(1-node, impl.StOther, "none"); node == 0 {
			p = ahead(p)
		}
		for _, one := range []struct {
			who    int64
			c      impl.Cmd
			now    []int64
			dirty  int64
			answer impl.Answer
		}{
			{1, readOf(2), []int64{50, 51, 52}, 0, impl.Answer{Text: "52"}},
			{1, writeOf(1, 9), []int64{50, 9, 52}, 2, impl.Answer{}},
			{1, swapOf(0, 50, 8), []int64{8, 51, 52}, 1, impl.Answer{}},
			{1, swapOf(0, 51, 8), []int64{50, 51, 52}, 0, impl.Answer{Status: impl.SaUnlike, Text: "50"}},
			{1, unmapOf(2), []int64{50, 51, 0}, 4, impl.Answer{}},
			{1, writeOf(3, 9), []int64{50, 51, 52}, 0, impl.Answer{Status: impl.SaRange}},
			{1, writeOf(1, 10000), []int64{50, 51, 52}, 0, impl.Answer{Status: impl.SaRange}},
			{2, readOf(2), []int64{50, 51, 52}, 0, impl.Answer{Status: impl.SaConflict}},
			{0, writeOf(1, 9), []int64{50, 51, 52}, 0, impl.Answer{Status: impl.SaConflict}},
			{3, keysCmd, []int64{50, 51, 52}, 0, impl.Answer{Text: "8 5 7"}},
			{0, holderCmd, []int64{50, 51, 52}, 0, impl.Answer{Text: "8 2 7"}},
		} {
			after := edited(n, func(n *impl.Node) { n.Disk.Now, n.Copier.Dirty = one.now, one.dirty })
			e := impl.Event{Kind: impl.EvCmd, Who: one.who, Bytes: bytesOf(one.c), Answer: one.answer}
			wantHappen(t, p, askOf(node, one.who, bytesOf(one.c)), changed(p, after, nil, e), one.answer, true)
		}
		registered := edited(n, func(n *impl.Node) { n.Holding = held(2, 1, 9, 5, 7, 0, 6) })
		e := impl.Event{Kind: impl.EvCmd, Who: 3, Bytes: bytesOf(registerOf(6))}
		wantHappen(t, p, askOf(node, 3, bytesOf(registerOf(6))), changed(p, registered, nil, e), impl.Answer{}, true)
	}
}

// What is no command is told so by each house that is Up, and is an Event, too: of 20 bytes still, of 21 no more.
func TestAskOfNoCommand(t *testing.T) {
	codes := []struct{ bytes, code string }{{strings.Repeat("\x01", 19), "2"}, {strings.Repeat("\x00", 20), "2"}, {"\n", "1"}}
	for _, one := range notCmdBytes {
		if len(one.bytes) <= 20 {
			codes = append(codes, struct{ bytes, code string }{one.bytes, one.code})
		}
	}
	for _, state := range threeStates {
		for node := range int64(2) {
			p := ahead(pairOf(houseOf(0, state, "none"), houseOf(1, state, "none")))
			for who := range int64(4) {
				for _, one := range codes {
					answer := impl.Answer{Status: impl.SaBad, Text: one.code}
					e := impl.Event{Kind: impl.EvCmd, Who: who, Bytes: one.bytes, Answer: answer}
					wantHappen(t, p, askOf(node, who, one.bytes), changed(p, p.Nodes[node], nil, e), answer, true)
				}
				for _, n := range []int{21, 22, 256, 276, 300, 5000} {
					wantPairStays(t, p, askOf(node, who, strings.Repeat("\x00", n)))
				}
				wantPairStays(t, p, askOf(node, who, bytesOf(readOf(0))+strings.Repeat("\x00", 13)))
			}
		}
	}
}

// SaBusy and SaMoved are answers, though no Events; SaNone is none.
func TestAskThatIsNoEvent(t *testing.T) {
	for node := range int64(2) {
		for _, c := range allCmds() {
			for who := range int64(4) {
				p := ahead(pairOf(houseOf(0, impl.StHanding, "clean"), houseOf(1, impl.StHanding, "none")))
				wantHappen(t, p, askOf(node, who, bytesOf(c)), p, impl.Answer{Status: impl.SaBusy}, true)
				p = ahead(pairOf(houseOf(0, impl.StOther, "none"), houseOf(1, impl.StOther, "none")))
				wantHappen(t, p, askOf(node, who, bytesOf(c)), p, impl.Answer{Status: impl.SaMoved}, true)
			}
		}
		for _, state := range threeStates {
			up := ahead(pairOf(houseOf(0, state, "none"), houseOf(1, state, "none")))
			down := editedPair(up, func(p *impl.Pair) { p.Nodes[node] = fallenByHand(p.Nodes[node], 0) })
			for _, bytes := range []string{bytesOf(readOf(0)), bytesOf(writeOf(0, 1)), "", "x"} {
				for who := range int64(4) {
					wantPairStays(t, down, askOf(node, who, bytes))
				}
				for _, who := range notPeople {
					wantPairStays(t, up, askOf(node, who, bytes))
				}
			}
		}
	}
}

// AcTold does to the one house what Told does, with its letters at the end of the post; GoHand keeps what there is.
func TestToldInAPair(t *testing.T) {
	done, stays := map[int64]int{}, map[int64]int{}
	for node := range int64(2) {
		for _, state := range threeStates {
			for _, shape := range copierShapes {
				if state == impl.StOther && shape != "none" {
					continue
				}
				for _, other := range threeStates {
					nodes := [2]impl.Node{}
					nodes[node], nodes[1-node] = houseOf(node, state, shape), houseOf(1-node, other, "none")
					p := ahead(pairOf(nodes[:]...))
					for kind := int64(-1); kind <= 8; kind++ {
						after, msgs, is := impl.Told(nodes[node], kind, 0)
						if !is {
							wantPairStays(t, p, tellOf(node, kind, 0))
							stays[kind]++
							continue
						}
						events := []impl.Event{}
						if kind == impl.GoHand {
							events = append(events, keepEvent)
						}
						wantDone(t, p, tellOf(node, kind, 0), changed(p, after, msgs, events...))
						done[kind]++
					}
					down := editedPair(p, func(p *impl.Pair) { p.Nodes[node] = fallenByHand(p.Nodes[node], 0) })
					for kind := int64(1); kind <= 6; kind++ {
						wantPairStays(t, down, tellOf(node, kind, 0))
					}
				}
			}
		}
	}
	for kind := int64(1); kind <= 6; kind++ {
		if done[kind] == 0 || stays[kind] == 0 {
			t.Errorf("kind %d: %d told, %d not", kind, done[kind], stays[kind])
		}
	}
}

// letterPost has a letter of each kind to each house, of this try and of the next one, and with an Epoch above: 40 in all.
func letterPost() []impl.Msg {
	list := []impl.Msg{}
	add := func(m impl.Msg) { list = append(list, m) }
	for _, try := range []int64{6, 7} {
		eachLetter(0, try, 4, add)
		eachLetter(1, try, 4, add)
	}
	eachLetter(0, 6, 5, add)
	return list
}

// AcHear takes one letter out of the post, wherever it lies, and does to the house that it is to what Heard does; a letter that is not heeded is gone as one that is.
func TestHeardInAPair(t *testing.T) {
	heeded, not := map[int64]int{}, map[int64]int{}
	houses := []impl.Node{
		houseOf(0, impl.StOwner, "closed"), houseOf(0, impl.StOwner, "waits"), houseOf(0, impl.StHanding, "clean"), houseOf(0, impl.StOther, "none"),
		withSink(houseOf(0, impl.StOther, "none"), sinkOf(6, 1, 7, 2)), fallenByHand(houseOf(0, impl.StOwner, "none"), 0), fallenByHand(houseOf(0, impl.StOther, "none"), 0),
	}
	post := letterPost()
	for k, first := range houses {
		for step := range 3 {
			p := withEvents(withPost(pairOf(first, houses[(k+step)%len(houses)]), post), eventsOf(4))
			for at, m := range post {
				after, msgs, is := impl.Heard(p.Nodes[m.To], m, 0)
				want := changed(withPost(p, takenAway(post, at)), after, msgs)
				wantDone(t, p, hearOf(int64(at), 0), want)
				if is {
					heeded[m.Kind]++
				} else {
					not[m.Kind]++
					wantDone(t, p, hearOf(int64(at), 0), withPost(p, takenAway(post, at)))
				}
			}
			for _, at := range noPlaces(40) {
				wantPairStays(t, p, hearOf(at, 0))
			}
		}
	}
	for kind := int64(1); kind <= 8; kind++ {
		if heeded[kind] == 0 || not[kind] == 0 {
			t.Errorf("kind %d: %d heeded, %d not", kind, heeded[kind], not[kind])
		}
	}
}

// The first, one in the middle and the last of three, to either house, and which letter comes to the post.
func TestHeardWrittenOut(t *testing.T) {
	begin := impl.Msg{To: 1, Kind: impl.MsBegin, Try: 7}
	ready := impl.Msg{To: 0, Kind: impl.MsReady, Try: 6}
	hand := impl.Msg{To: 1, Kind: impl.MsHand, Try: 6, Epoch: 4, Holding: held(3, 2, 4, 0, 0, 9, 1)}
	owner, other := houseOf(0, impl.StOwner, "closed"), withSink(houseOf(1, impl.StOther, "none"), sinkOf(6, 1, 7, 2))
	p := withPost(pairOf(owner, other), []impl.Msg{begin, ready, hand})

	began := notedNode(other, impl.Record{Epoch: 4, State: impl.StOther, Tried: 6, Seen: 7})
	began.Sink = sinkOf(7, 0, 0, 0)
	answered := impl.Msg{To: 0, Kind: impl.MsReady, Try: 7}
	wantDone(t, p, hearOf(0, 0), changed(withPost(p, []impl.Msg{ready, hand, answered}), began, nil))

	open := edited(owner, func(n *impl.Node) { n.Copier.Open = true })
	wantDone(t, p, hearOf(1, 0), changed(withPost(p, []impl.Msg{begin, hand}), open, nil))

	taken := notedNode(other, impl.Record{Epoch: 5, State: impl.StOwner, Tried: 6, Seen: 6})
	taken.Disk, taken.Holding, taken.Sink = flushedByHand(other.Disk), hand.Holding, impl.Sink{}
	answered = impl.Msg{To: 0, Kind: impl.MsTaken, Try: 6, Epoch: 5}
	wantDone(t, p, hearOf(2, 0), changed(withPost(p, []impl.Msg{begin, ready, answered}), taken, nil))
}

func TestLoseAndTwice(t *testing.T) {
	p, _ := impl.NewPair(2)
	p = withEvents(p, eventsOf(4))
	for n := range 41 {
		post := postOf(n, 500)
		p := withPost(p, post)
		for at := range n {
			wantDone(t, p, impl.Act{Kind: impl.AcLose, N: int64(at)}, withPost(p, takenAway(post, at)))
			if twice := (impl.Act{Kind: impl.AcTwice, N: int64(at)}); n < 40 {
				wantDone(t, p, twice, withPost(p, append(postOf(n, 500), post[at])))
			} else {
				wantPairStays(t, p, twice)
			}
		}
		for _, at := range noPlaces(n) {
			for _, kind := range []int64{impl.AcHear, impl.AcLose, impl.AcTwice} {
				wantPairStays(t, p, impl.Act{Kind: kind, N: at})
			}
		}
	}
}

// What falls as StOwner brings EvLoss with just the set, whatever is loose; what falls in another State brings none.
func TestFallAndRise(t *testing.T) {
	for node := range int64(2) {
		for _, state := range threeStates {
			n := houseOf(node, state, "none")
			nodes := [2]impl.Node{}
			nodes[node], nodes[1-node] = n, houseOf(1-node, impl.StOwner, "clean")
			p := ahead(pairOf(nodes[:]...))
			wantPairStays(t, p, riseOf(node))
			for set := int64(0); set <= 255; set++ {
				want := changed(p, fallenByHand(n, set), nil)
				if state == impl.StOwner {
					want.Events = append(want.Events, lossEvent(set))
				}
				wantDone(t, p, fallOf(node, set), want)
			}
			for _, set := range farNumbers {
				wantPairStays(t, p, fallOf(node, set))
			}
			down := changed(p, fallenByHand(n, 0), nil)
			down.Nodes[node].Log += framedByHand("record 5 1 7 7")[:9]
			for _, set := range []int64{-1, 0, 7, 255, 256} {
				wantPairStays(t, down, fallOf(node, set))
			}
			risen := edited(fallenByHand(n, 0), func(n *impl.Node) { n.Up = true })
			wantDone(t, down, riseOf(node), changed(p, risen, nil))
		}
	}
}

// A pairNoting is an act at which house 0 notes: what is to be noted, and the Events where it falls over that.
type pairNoting struct {
	what  string
	n     impl.Node
	kind  int64
	m     impl.Msg
	r     impl.Record
	falls []impl.Event
}

// pairNotings are all acts at which a house notes.
func pairNotings() []pairNoting {
	owner, clean, handing := houseOf(0, impl.StOwner, "none"), houseOf(0, impl.StOwner, "clean"), houseOf(0, impl.StHanding, "clean")
	other := withSink(houseOf(0, impl.StOther, "none"), sinkOf(6, 1, 7, 2))
	rec := func(epoch, state, tried, seen int64) impl.Record {
		return impl.Record{Epoch: epoch, State: state, Tried: tried, Seen: seen}
	}
	return []pairNoting{
		{"GoMove", owner, impl.GoMove, impl.Msg{}, rec(4, impl.StOwner, 7, 6), []impl.Event{lossEvent(0)}},
		{"GoHand", clean, impl.GoHand, impl.Msg{}, rec(4, impl.StHanding, 6, 6), []impl.Event{keepEvent, lossEvent(0)}},
		{"MsBegin", other, 0, impl.Msg{Kind: impl.MsBegin, Try: 7}, rec(4, impl.StOther, 6, 7), nil},
		{"MsHand", other, 0, impl.Msg{Kind: impl.MsHand, Try: 6, Epoch: 4, Holding: held(3, 2, 11, 0, 0, 9, 1)}, rec(5, impl.StOwner, 6, 6), nil},
		{"MsTaken", handing, 0, impl.Msg{Kind: impl.MsTaken, Try: 6, Epoch: 5}, rec(5, impl.StOther, 6, 6), nil},
		{"MsCancel", other, 0, impl.Msg{Kind: impl.MsCancel, Try: 7, Epoch: 4}, rec(4, impl.StOther, 6, 7), nil},
		{"MsNo", handing, 0, impl.Msg{Kind: impl.MsNo, Try: 6}, rec(4, impl.StOwner, 6, 6), nil},
	}
}

// at is the same act at either house, with a pair to do it to, and the post that is left of that where no letter comes.
func (one pairNoting) at(node int64, torn int64) (p impl.Pair, a impl.Act, left []impl.Msg) {
	nodes := [2]impl.Node{}
	nodes[node] = edited(one.n, func(n *impl.Node) { n.Id = node })
	nodes[1-node] = houseOf(1-node, impl.StOwner, "dirty")
	p = ahead(pairOf(nodes[:]...))
	left = clonePost(p.Post)
	if one.m.Kind == 0 {
		return p, tellOf(node, one.kind, torn), left
	}
	m := cloneMsg(one.m)
	m.To = node
	return withPost(p, slices.Insert(clonePost(left), 1, m)), hearOf(1, torn), left
}

// wantFell wants it down with its Record as it was, what was there ahead of its Events, and no letter.
func (one pairNoting) wantFell(t *testing.T, node int64, torn int64) {
	t.Helper()
	p, a, left := one.at(node, torn)
	after, msgs := impl.Node{}, []impl.Msg{}
	if a.Kind == impl.AcTold {
		after, msgs, _ = impl.Told(p.Nodes[node], a.N, torn)
	} else {
		after, msgs, _ = impl.Heard(p.Nodes[node], p.Post[1], torn)
	}
	if after.Up || len(msgs) > 0 || after.Record != one.n.Record {
		t.Fatalf("%s, torn %d: it does not fall", one.what, torn)
	}
	wantDone(t, p, a, changed(withPost(p, left), after, nil, one.falls...))
}

func TestFallsAsItNotesInAPair(t *testing.T) {
	for _, one := range pairNotings() {
		size := int64(len(framedByHand(showRecordByHand(one.r))))
		for node := range int64(2) {
			for torn := int64(1); torn <= size+1; torn++ {
				one.wantFell(t, node, torn)
			}
			for _, torn := range []int64{1000, 40000, 40001, 1 << 32, math.MaxInt64} {
				one.wantFell(t, node, torn)
			}
			p, a, left := one.at(node, 0)
			got, _, done := impl.Happen(p, a)
			if !done || !got.Nodes[node].Up || got.Nodes[node].Record != one.r || len(got.Post) < len(left) {
				t.Errorf("%s: it is not noted:\n%s", one.what, showPair(got))
			}
			if keeps := one.kind == impl.GoHand; len(got.Events) != 4 && !keeps || keeps && (len(got.Events) != 5 || got.Events[4] != keepEvent) {
				t.Errorf("%s: Events %v", one.what, got.Events)
			}
		}
	}
}

// Where there is no room in the Log it falls likewise, torn or not.
func TestFallsWhereThereIsNoRoomToNote(t *testing.T) {
	for _, one := range pairNotings() {
		size := len(framedByHand(showRecordByHand(one.r)))
		one.n.Log = paddedLog(40001-size, one.n.Record)
		for node := range int64(2) {
			for _, torn := range []int64{0, 1, 1000} {
				one.wantFell(t, node, torn)
			}
		}
		one.n.Log = paddedLog(40000-size, one.n.Record)
		for node := range int64(2) {
			p, a, _ := one.at(node, 0)
			if got, _, done := impl.Happen(p, a); !done || !got.Nodes[node].Up || got.Nodes[node].Record != one.r || len(got.Nodes[node].Log) != 40000 {
				t.Errorf("%s: there is just room:\n%s", one.what, showPair(got))
			}
			one.wantFell(t, node, 1)
		}
	}
}

// What is torn where nothing is noted is done as if it were not.
func TestTornWhereNothingIsNoted(t *testing.T) {
	post := letterPost()[:39]
	for _, n := range []impl.Node{houseOf(0, impl.StOwner, "dirty"), houseOf(0, impl.StOwner, "closed"), houseOf(0, impl.StHanding, "waits"), withSink(houseOf(0, impl.StOther, "none"), sinkOf(6, 1, 7, 2))} {
		p := withPost(pairOf(n, houseOf(1, impl.StOwner, "waits")), post)
		for _, torn := range []int64{1, 5, math.MaxInt64} {
			for kind := int64(2); kind <= 6; kind++ {
				want, _, done := impl.Happen(p, tellOf(0, kind, 0))
				wantHappen(t, p, tellOf(0, kind, torn), want, noneAnswer, done)
			}
			for at, m := range post {
				want, _, done := impl.Happen(p, hearOf(int64(at), 0))
				if want.Nodes[m.To].Log == p.Nodes[m.To].Log {
					wantHappen(t, p, hearOf(int64(at), torn), want, noneAnswer, done)
				}
			}
		}
	}
}

// A Torn below 0 is refused with the two kinds that may note, whatever would come of them.
func TestTornBelowNoughtInAPair(t *testing.T) {
	post := letterPost()
	for _, state := range threeStates {
		for _, up := range eachFlag {
			p := withPost(pairOf(houseOf(0, state, "none"), houseOf(1, impl.StOther, "none")), post)
			p.Nodes[0].Up = up
			for _, torn := range []int64{-1, -2, math.MinInt64} {
				for kind := int64(0); kind <= 7; kind++ {
					wantPairStays(t, p, tellOf(0, kind, torn))
					wantPairStays(t, p, tellOf(1, kind, torn))
				}
				for at := int64(-1); at <= 40; at++ {
					wantPairStays(t, p, hearOf(at, torn))
				}
			}
		}
	}
}

// A tornRow is an act that is done with its pair, and what comes of it with nothing torn.
type tornRow struct {
	p      impl.Pair
	a      impl.Act
	want   impl.Pair
	answer impl.Answer
}

// tornRows have an act of each kind to each house; none of them comes to noting, so that nothing can be torn.
func tornRows(node int64) []tornRow {
	nodes := [2]impl.Node{}
	nodes[node], nodes[1-node] = houseOf(node, impl.StOwner, "closed"), houseOf(1-node, impl.StOther, "none")
	n, first, second := nodes[node], impl.Msg{To: node, Kind: impl.MsReady, Try: 6}, impl.Msg{To: 1 - node, Kind: impl.MsReady, Try: 6}
	p := withEvents(withPost(pairOf(nodes[:]...), []impl.Msg{first, second}), eventsOf(4))
	down := editedPair(p, func(p *impl.Pair) { p.Nodes[node] = fallenByHand(n, 0) })
	bad := impl.Answer{Status: impl.SaBad, Text: "1"}
	asked := impl.Event{Kind: impl.EvCmd, Who: 1, Bytes: "x", Answer: bad}
	dropped := edited(n, func(n *impl.Node) { n.Copier = impl.Copier{} })
	open := edited(n, func(n *impl.Node) { n.Copier.Open = true })
	risen := edited(fallenByHand(n, 0), func(n *impl.Node) { n.Up = true })
	return []tornRow{
		{p, askOf(node, 1, "x"), changed(p, n, nil, asked), bad},
		{p, tellOf(node, impl.GoCancel, 0), changed(p, dropped, nil), noneAnswer},
		{p, hearOf(0, 0), changed(withPost(p, []impl.Msg{second}), open, nil), noneAnswer},
		{p, impl.Act{Kind: impl.AcLose, N: 1}, withPost(p, []impl.Msg{first}), noneAnswer},
		{p, impl.Act{Kind: impl.AcTwice, N: 1}, withPost(p, []impl.Msg{first, second, second}), noneAnswer},
		{p, fallOf(node, 3), changed(p, fallenByHand(n, 3), nil, lossEvent(3)), noneAnswer},
		{down, riseOf(node), changed(down, risen, nil), noneAnswer},
	}
}

// A Torn below 0 is out of range in an act of each kind, also of those that tear nothing; from 0 on it changes nothing where nothing is noted.
func TestTornOfEachKind(t *testing.T) {
	for node := range int64(2) {
		for k, row := range tornRows(node) {
			if row.a.Kind != int64(k+1) {
				t.Fatalf("row %d has the kind %d", k, row.a.Kind)
			}
			for _, torn := range []int64{0, 1, 2, 25, 40000, 40001, 1 << 32, math.MaxInt64} {
				row.a.Torn = torn
				wantHappen(t, row.p, row.a, row.want, row.answer, true)
			}
			for _, torn := range []int64{-1, -2, -256, -1 << 32, math.MinInt64 + 1, math.MinInt64} {
				row.a.Torn = torn
				wantPairStays(t, row.p, row.a)
				wantHappen(t, impl.Pair{}, row.a, impl.Pair{}, noneAnswer, false)
			}
		}
	}
}

// Likewise of all acts that are done with some pairs: what a house would tell or send, and what would be refused, has no say.
func TestTornBelowNoughtOfAllActs(t *testing.T) {
	done := map[int64]int{}
	for k, state := range threeStates {
		p := ahead(pairOf(houseOf(0, state, "none"), houseOf(1, threeStates[(k+1)%3], "none")))
		for _, up := range eachFlag {
			if p.Post = letterPost()[:39]; !up {
				p.Nodes[k%2] = fallenByHand(p.Nodes[k%2], 0)
			}
			for _, a := range pairActs() {
				a.Torn = 0
				if wantHappenByHand(t, p, a) {
					done[a.Kind]++
				}
				for _, torn := range []int64{-1, math.MinInt64} {
					a.Torn = torn
					wantPairStays(t, p, a)
				}
			}
		}
	}
	for kind := int64(1); kind <= 7; kind++ {
		if done[kind] == 0 {
			t.Errorf("no act of kind %d was done", kind)
		}
	}
}

func TestActsThatAreNone(t *testing.T) {
	p := ahead(pairOf(houseOf(0, impl.StOwner, "none"), fallenByHand(houseOf(1, impl.StOther, "none"), 0)))
	for _, kind := range append([]int64{0, 8, 9, 10}, farNumbers...) {
		wantPairStays(t, p, impl.Act{Kind: kind})
		wantPairStays(t, p, impl.Act{Kind: kind, Node: 1, N: 1, Who: 1, Bytes: bytesOf(readOf(0))})
	}
	for _, node := range append([]int64{2, 3}, farNumbers...) {
		wantPairStays(t, p, askOf(node, 1, bytesOf(readOf(0))))
		wantPairStays(t, p, askOf(node, 1, ""))
		for kind := int64(1); kind <= 6; kind++ {
			wantPairStays(t, p, tellOf(node, kind, 0))
		}
		wantPairStays(t, p, fallOf(node, 0))
		wantPairStays(t, p, riseOf(node))
	}
}

// An act is looked at for no more than its kind tells of, but for Torn.
func TestWhatAnActDoesNotTell(t *testing.T) {
	p := ahead(pairOf(houseOf(0, impl.StOwner, "none"), fallenByHand(houseOf(1, impl.StOther, "none"), 0)))
	long := strings.Repeat("x", 21)
	for _, a := range []struct{ plain, more impl.Act }{
		{askOf(0, 1, bytesOf(readOf(0))), impl.Act{Kind: impl.AcAsk, N: -9, Who: 1, Bytes: bytesOf(readOf(0)), Torn: 9}},
		{tellOf(0, impl.GoMove, 0), impl.Act{Kind: impl.AcTold, N: impl.GoMove, Who: -9, Bytes: long}},
		{hearOf(1, 0), impl.Act{Kind: impl.AcHear, Node: -9, N: 1, Who: -9, Bytes: long}},
		{impl.Act{Kind: impl.AcLose, N: 1}, impl.Act{Kind: impl.AcLose, Node: 2, N: 1, Who: 4, Bytes: long, Torn: 1}},
		{impl.Act{Kind: impl.AcTwice, N: 1}, impl.Act{Kind: impl.AcTwice, Node: 2, N: 1, Who: 4, Bytes: long, Torn: 1}},
		{fallOf(0, 3), impl.Act{Kind: impl.AcFall, N: 3, Who: 4, Bytes: long, Torn: 1}},
		{riseOf(1), impl.Act{Kind: impl.AcRise, Node: 1, N: -9, Who: 4, Bytes: long, Torn: 1}},
	} {
		want, answer, done := impl.Happen(p, a.plain)
		if !done {
			t.Errorf("%+v is not done", a.plain)
		}
		wantHappen(t, p, a.more, want, answer, true)
	}
}

// What brings a letter wants room for it; what brings none is done with a full post, too.
func TestRoomForMsgs(t *testing.T) {
	other := houseOf(1, impl.StOther, "none")
	for _, one := range []struct {
		what   string
		n      impl.Node
		kind   int64
		brings bool
	}{
		{"GoMove", houseOf(0, impl.StOwner, "none"), impl.GoMove, true},
		{"GoAgain, closed", houseOf(0, impl.StOwner, "closed"), impl.GoAgain, true},
		{"GoAgain, open", houseOf(0, impl.StOwner, "waits"), impl.GoAgain, false},
		{"GoCopy", houseOf(0, impl.StOwner, "dirty"), impl.GoCopy, true},
		{"GoHand", houseOf(0, impl.StOwner, "clean"), impl.GoHand, true},
		{"GoSend", houseOf(0, impl.StHanding, "none"), impl.GoSend, true},
		{"GoCancel, handing", houseOf(0, impl.StHanding, "none"), impl.GoCancel, true},
		{"GoCancel, copying", houseOf(0, impl.StOwner, "dirty"), impl.GoCancel, false},
	} {
		for n := 37; n <= 40; n++ {
			p := withPost(pairOf(one.n, other), postOf(n, 0))
			if n == 40 && one.brings {
				wantPairStays(t, p, tellOf(0, one.kind, 0))
			} else if got, _, done := impl.Happen(p, tellOf(0, one.kind, 0)); !done || !samePost(got.Post[:n], p.Post) || (len(got.Post) > n) != one.brings {
				t.Errorf("%s with %d Msgs: %v,\n%s", one.what, n, done, showPair(got))
			}
			wantHappenByHand(t, p, tellOf(0, one.kind, 0))
		}
	}
	// What falls as it notes sends nothing, and so needs no room.
	for _, one := range []pairNoting{pairNotings()[0], pairNotings()[1]} {
		p := withPost(pairOf(one.n, other), postOf(40, 0))
		after, _, _ := impl.Told(one.n, one.kind, 3)
		wantDone(t, p, tellOf(0, one.kind, 3), changed(p, after, nil, one.falls...))
		wantPairStays(t, p, tellOf(0, one.kind, 0))
	}
	// What is heard has left the post as its answer comes.
	full := withPost(pairOf(houseOf(0, impl.StOwner, "none"), other), append(postOf(39, 0), impl.Msg{To: 1, Kind: impl.MsBegin, Try: 7}))
	if got, _, done := impl.Happen(full, hearOf(39, 0)); !done || !samePost(got.Post, append(postOf(39, 0), impl.Msg{Kind: impl.MsReady, Try: 7})) {
		t.Errorf("MsBegin of a full post: %v,\n%s", done, showPair(got))
	}
}

// What brings one Event, or two, wants room for all of them; what brings none is done with 300 of them, too.
func TestRoomForEvents(t *testing.T) {
	owner, clean, handing, other := houseOf(0, impl.StOwner, "none"), houseOf(0, impl.StOwner, "clean"), houseOf(0, impl.StHanding, "clean"), houseOf(0, impl.StOther, "none")
	read := bytesOf(readOf(0))
	for _, one := range []struct {
		what   string
		n      impl.Node
		a      impl.Act
		brings int
	}{
		{"AcAsk", owner, askOf(0, 1, read), 1},
		{"AcAsk of a conflict", owner, askOf(0, 2, read), 1},
		{"AcAsk of no command", other, askOf(0, 1, ""), 1},
		{"AcAsk of SaBusy", handing, askOf(0, 1, read), 0},
		{"AcAsk of SaMoved", other, askOf(0, 1, read), 0},
		{"GoMove", owner, tellOf(0, impl.GoMove, 0), 0},
		{"GoMove, torn", owner, tellOf(0, impl.GoMove, 2), 1},
		{"GoHand", clean, tellOf(0, impl.GoHand, 0), 1},
		{"GoHand, torn", clean, tellOf(0, impl.GoHand, 2), 2},
		{"GoSend", handing, tellOf(0, impl.GoSend, 0), 0},
		{"AcHear", owner, hearOf(0, 0), 0},
		{"AcHear, torn", handing, hearOf(1, 2), 0},
		{"AcLose", owner, impl.Act{Kind: impl.AcLose}, 0},
		{"AcTwice", owner, impl.Act{Kind: impl.AcTwice}, 0},
		{"AcFall of StOwner", owner, fallOf(0, 5), 1},
		{"AcFall of StHanding", handing, fallOf(0, 5), 0},
		{"AcFall of StOther", other, fallOf(0, 5), 0},
		{"AcRise", fallenByHand(owner, 0), riseOf(0), 0},
	} {
		for n := 297; n <= 300; n++ {
			p := withEvents(withPost(pairOf(one.n, houseOf(1, impl.StOther, "none")), []impl.Msg{{To: 1, Kind: impl.MsBegin, Try: 7}, {Kind: impl.MsNo, Try: 6}}), eventsOf(n))
			if n+one.brings > 300 {
				wantPairStays(t, p, one.a)
			} else if got, _, done := impl.Happen(p, one.a); !done || len(got.Events) != n+one.brings || !slices.Equal(got.Events[:n], p.Events) {
				t.Errorf("%s with %d Events: %v,\n%s", one.what, n, done, showPair(got))
			}
			wantHappenByHand(t, p, one.a)
		}
	}
}

// A pairStep is an act of a row that is written out, with the letters that lie in the post then, and the Events that it brings.
type pairStep struct {
	a      impl.Act
	post   []int64
	events []impl.Event
}

// A store of one block is written, moved there, lost there, and moved back again.
func TestMovesWrittenOut(t *testing.T) {
	p, _ := impl.NewPair(1)
	write := bytesOf(writeOf(0, 5))
	wrote := impl.Event{Kind: impl.EvCmd, Who: 1, Bytes: write}
	moved := func(node int64) []pairStep {
		return []pairStep{
			{tellOf(node, impl.GoMove, 0), []int64{impl.MsBegin}, nil},
			{hearOf(0, 0), []int64{impl.MsReady}, nil},
			{hearOf(0, 0), nil, nil},
			{tellOf(node, impl.GoCopy, 0), []int64{impl.MsCopy}, nil},
			{impl.Act{Kind: impl.AcTwice}, []int64{impl.MsCopy, impl.MsCopy}, nil},
			{hearOf(0, 0), []int64{impl.MsCopy, impl.MsCopied}, nil},
			{hearOf(0, 0), []int64{impl.MsCopied, impl.MsCopied}, nil},
			{impl.Act{Kind: impl.AcLose, N: 1}, []int64{impl.MsCopied}, nil},
			{hearOf(0, 0), nil, nil},
			{tellOf(node, impl.GoHand, 0), []int64{impl.MsHand}, []impl.Event{keepEvent}},
			{tellOf(node, impl.GoCancel, 0), []int64{impl.MsHand, impl.MsCancel}, nil},
			{hearOf(0, 0), []int64{impl.MsCancel, impl.MsTaken}, nil},
			{hearOf(0, 0), []int64{impl.MsTaken, impl.MsTaken}, nil},
			{hearOf(1, 0), []int64{impl.MsTaken}, nil},
			{hearOf(0, 0), nil, nil},
		}
	}
	steps := []pairStep{{askOf(0, 1, write), nil, []impl.Event{wrote}}}
	steps = append(steps, moved(0)...)
	steps = append(steps, pairStep{askOf(1, 1, write), nil, []impl.Event{wrote}}, pairStep{fallOf(1, 1), nil, []impl.Event{lossEvent(1)}}, pairStep{riseOf(1), nil, nil})
	steps = append(steps, moved(1)...)
	events := []impl.Event{}
	for k, step := range steps {
		after, answer, done := impl.Happen(p, step.a)
		kinds := []int64{}
		for _, m := range after.Post {
			kinds = append(kinds, m.Kind)
		}
		events = append(events, step.events...)
		asked := step.a.Kind == impl.AcAsk
		if !done || asked != (answer == impl.Answer{}) || !asked && answer != noneAnswer || !slices.Equal(kinds, step.post) || !slices.Equal(after.Events, events) {
			t.Fatalf("step %d, %+v: %v, %v,\n%s", k, step.a, answer, done, showPair(after))
		}
		p = after
	}
	if p.Nodes[0].Record != (impl.Record{Epoch: 3, State: impl.StOwner, Tried: 1, Seen: 1}) || p.Nodes[1].Record != (impl.Record{Epoch: 3, State: impl.StOther, Tried: 1, Seen: 1}) {
		t.Errorf("in the end:\n%s", showPair(p))
	}
	if !slices.Equal(p.Nodes[0].Disk.Kept, []int64{5}) {
		t.Errorf("what was written is not there:\n%s", showPair(p))
	}
}

// pairActs are acts of each kind with what they tell in range, at its edges and past them.
func pairActs() []impl.Act {
	list := []impl.Act{{}, {Kind: 8}}
	for node := int64(-1); node <= 2; node++ {
		for _, bytes := range []string{bytesOf(readOf(0)), bytesOf(writeOf(0, 9)), bytesOf(registerOf(4)), bytesOf(keysCmd), "", strings.Repeat("y", 20), strings.Repeat("y", 21)} {
			for _, who := range []int64{-1, 1, 2, 4} {
				list = append(list, askOf(node, who, bytes))
			}
		}
		for kind := int64(0); kind <= 7; kind++ {
			list = append(list, tellOf(node, kind, 0), tellOf(node, kind, 3), tellOf(node, kind, -1))
		}
		for _, set := range []int64{-1, 0, 1, 255, 256} {
			list = append(list, fallOf(node, set))
		}
		list = append(list, riseOf(node), impl.Act{Kind: impl.AcAsk, Node: node, Who: 1, Bytes: "y", Torn: -1}, impl.Act{Kind: impl.AcFall, Node: node, Torn: -1}, impl.Act{Kind: impl.AcRise, Node: node, Torn: -1})
	}
	list = append(list, impl.Act{Kind: impl.AcLose, Torn: -1}, impl.Act{Kind: impl.AcTwice, Torn: -1})
	for at := int64(-1); at <= 40; at++ {
		list = append(list, hearOf(at, 0), hearOf(at, 3))
		if at%8 == 0 {
			list = append(list, hearOf(at, -1), impl.Act{Kind: impl.AcLose, N: at}, impl.Act{Kind: impl.AcTwice, N: at})
		}
	}
	return list
}

// Each house of each State beside others, with each act, as told by hand.
func TestEachPairByHand(t *testing.T) {
	t.Parallel()
	post, acts := letterPost(), pairActs()
	done := map[int64]int{}
	for _, blocks := range []int{1, 3} {
		houses := []impl.Node{}
		for _, state := range threeStates {
			houses = append(houses, nodesOf(nodeOf(0, blocks, impl.Record{Epoch: 4, State: state, Tried: 6, Seen: 6}))...)
		}
		for k, first := range houses {
			for _, step := range []int{0, 11} {
				p := pairOf(first, houses[(k+step)%len(houses)])
				p = withPost(p, post[:40-(k+step)%3])
				if k%4 == 0 {
					p.Events = eventsOf(300 - k/4%3)
				}
				for _, a := range acts {
					if wantHappenByHand(t, p, a) {
						done[a.Kind]++
					}
				}
			}
		}
	}
	for kind := int64(1); kind <= 7; kind++ {
		if done[kind] < 30 {
			t.Errorf("%d acts of kind %d were done", done[kind], kind)
		}
	}
}

// thrownPair is mostly right.
func thrownPair(source *rand.Rand) impl.Pair {
	a := thrownNode(source)
	b := thrownNode(source)
	for len(a.Disk.Now) != len(b.Disk.Now) && source.Intn(60) > 0 {
		b = thrownNode(source)
	}
	p := pairOf(a, b)
	for range source.Intn(6) {
		n := p.Nodes[source.Intn(2)]
		p.Post = append(p.Post, thrownMsg(source, n))
	}
	for range source.Intn(4) {
		p.Events = append(p.Events, eventNumbered(source.Intn(300)))
	}
	if k := source.Intn(2); source.Intn(6) == 0 && nodeOkByHand(p.Nodes[k]) {
		p.Nodes[k] = fallenByHand(p.Nodes[k], source.Int63n(256))
	}
	switch source.Intn(40) {
	case 0:
		p.Nodes[source.Intn(2)].Id = thrownNear(source, 0, 1)
	case 1:
		p.Nodes = p.Nodes[:source.Intn(2)]
	case 2:
		p.Events = append(p.Events, impl.Event{Kind: thrownNear(source, 1, 2), Who: thrownNear(source, 0, 3), Answer: impl.Answer{Status: thrownNear(source, 0, 7)}, Set: thrownNear(source, 0, 255)})
	case 3:
		p.Post = append(p.Post, postOf(40-source.Intn(8), 0)...)
	case 4:
		p.Events = eventsOf(298 + source.Intn(5))
	}
	return p
}

// thrownActOf is an act with each field near what the pair may make something of.
func thrownActOf(source *rand.Rand, p impl.Pair) impl.Act {
	a := impl.Act{Kind: 1 + source.Int63n(7), Node: source.Int63n(2), N: 1 + source.Int63n(6), Who: thrownPerson(source), Torn: thrownTorn(source)}
	a.Bytes = bytesOf(thrownStoreCmd(source))
	switch {
	case source.Intn(10) == 0:
		a.Bytes = notCmdBytes[source.Intn(len(notCmdBytes))].bytes
	case source.Intn(20) == 0:
		a.Bytes = strings.Repeat("z", 19+source.Intn(4))
	}
	if n := int64(len(p.Post)); between(a.Kind, impl.AcHear, impl.AcTwice) && n > 0 {
		a.N = source.Int63n(n)
	}
	switch source.Intn(20) {
	case 0:
		a.N = thrownNear(source, 0, 6, int64(len(p.Post)), 255)
	case 1:
		a.Node = thrownNear(source, 0, 1)
	case 2:
		a.Kind = thrownNear(source, 1, 7)
	case 3:
		a.Torn = -1 - source.Int63n(3)
	}
	return a
}

func TestPairsThrown(t *testing.T) {
	t.Parallel()
	source := rand.New(rand.NewSource(25))
	right, wrong, done := 0, 0, map[int64]int{}
	for range 20000 {
		p := thrownPair(source)
		if pairOkByHand(p) {
			right++
			wantOwners(t, p, int64(len(slices.DeleteFunc(slices.Clone(p.Nodes), func(n impl.Node) bool { return n.Record.State != 1 }))))
		} else {
			wrong++
			wantOwners(t, p, -1)
		}
		if impl.PairOk(p) != pairOkByHand(p) {
			t.Fatalf("PairOk of\n%s\n= %v", showPair(p), impl.PairOk(p))
		}
		for range 4 {
			a := thrownActOf(source, p)
			if wantHappenByHand(t, p, a) {
				done[a.Kind]++
			}
		}
	}
	if right < 3000 || wrong < 3000 {
		t.Errorf("%d right, %d wrong of what was thrown", right, wrong)
	}
	for kind := int64(1); kind <= 7; kind++ {
		if done[kind] < 300 {
			t.Errorf("%d acts of kind %d were done", done[kind], kind)
		}
	}
}
