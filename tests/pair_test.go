package tests

import (
	"fmt"
	"math"
	"slices"
	"strings"
	"testing"

	"loop.example/g00354/impl"
)

func clonePair(p impl.Pair) impl.Pair {
	nodes := []impl.Node{}
	for _, n := range p.Nodes {
		nodes = append(nodes, cloneNode(n))
	}
	return impl.Pair{Nodes: nodes, Post: clonePost(p.Post), Events: slices.Clone(p.Events)}
}

func samePair(a, b impl.Pair) bool {
	return slices.EqualFunc(a.Nodes, b.Nodes, sameNode) && samePost(a.Post, b.Post) && slices.Equal(a.Events, b.Events)
}

func noPair(p impl.Pair) bool { return samePair(p, impl.Pair{}) }

// showPair tells of the Events no more than the last ones.
func showPair(p impl.Pair) string {
	lines := []string{}
	for _, n := range p.Nodes {
		lines = append(lines, showNode(n))
	}
	last := p.Events[max(0, len(p.Events)-3):]
	return strings.Join(append(lines, fmt.Sprintf("%d Msgs %+v, %d Events ..%+v", len(p.Post), p.Post, len(p.Events), last)), "\n")
}

func editedPair(p impl.Pair, edit func(p *impl.Pair)) impl.Pair {
	p = clonePair(p)
	edit(&p)
	return p
}

// pairOf is of these two, numbered as they stand, with nothing in the post and no Event.
func pairOf(nodes ...impl.Node) impl.Pair {
	p := clonePair(impl.Pair{Nodes: nodes})
	for k := range p.Nodes {
		p.Nodes[k].Id = int64(k)
	}
	return p
}

func withPost(p impl.Pair, list []impl.Msg) impl.Pair {
	return editedPair(p, func(p *impl.Pair) { p.Post = clonePost(list) })
}

func withEvents(p impl.Pair, list []impl.Event) impl.Pair {
	return editedPair(p, func(p *impl.Pair) { p.Events = slices.Clone(list) })
}

// eventNumbered is a right Event, each of the three Kinds in turn.
func eventNumbered(k int) impl.Event {
	switch n := int64(k); n % 3 {
	case 0:
		return impl.Event{Kind: impl.EvCmd, Who: n % 4, Bytes: strings.Repeat("b", k%21), Answer: impl.Answer{Status: n % 8, Text: fmt.Sprint(n)}}
	case 1:
		return impl.Event{Kind: impl.EvLoss, Set: n % 256}
	}
	return impl.Event{Kind: impl.EvKeep}
}

func eventsOf(n int) []impl.Event {
	list := []impl.Event{}
	for k := range n {
		list = append(list, eventNumbered(k))
	}
	return list
}

// eventMost is how far an Event of a Kind goes: its numbers from 0 on, its texts by their bytes.
type eventMost struct{ who, bytes, status, text, set int64 }

var mostOfKind = map[int64]eventMost{
	1: {who: 3, bytes: 20, status: 7, text: math.MaxInt64},
	2: {set: 255},
	3: {},
}

func eventOkByHand(e impl.Event) bool {
	most, is := mostOfKind[e.Kind]
	return is && between(e.Who, 0, most.who) && int64(len(e.Bytes)) <= most.bytes &&
		between(e.Answer.Status, 0, most.status) && int64(len(e.Answer.Text)) <= most.text && between(e.Set, 0, most.set)
}

func pairOkByHand(p impl.Pair) bool {
	wrong := slices.ContainsFunc(p.Events, func(e impl.Event) bool { return !eventOkByHand(e) })
	if wrong || len(p.Events) > 300 || !postOkByHand(p.Post) || len(p.Nodes) != 2 {
		return false
	}
	a, b := p.Nodes[0], p.Nodes[1]
	return a.Id == 0 && b.Id == 1 && len(a.Disk.Now) == len(b.Disk.Now) && nodeOkByHand(a) && nodeOkByHand(b)
}

var noneAnswer = impl.Answer{Status: 7}

// A handPair tells the chapter a second time: what there is room for is looked at when all is done.
type handPair struct {
	p      impl.Pair
	answer impl.Answer
}

func (h *handPair) event(e impl.Event) { h.p.Events = append(h.p.Events, e) }

// does puts a house in the place of the one before, its letters into the post, and tells of a fall that came by itself.
func (h *handPair) does(after impl.Node, msgs []impl.Msg) {
	before := h.p.Nodes[after.Id]
	h.p.Nodes[after.Id] = after
	h.p.Post = append(h.p.Post, msgs...)
	if before.Up && !after.Up && before.Record.State == 1 {
		h.event(impl.Event{Kind: 2})
	}
}

func (h *handPair) asks(n impl.Node, a impl.Act) bool {
	after, answer := askedByHand(n, a.Who, a.Bytes)
	if len(a.Bytes) > 20 || answer.Status == 7 {
		return false
	}
	if answer.Status <= 4 {
		h.event(impl.Event{Kind: 1, Who: a.Who, Bytes: a.Bytes, Answer: answer})
	}
	h.p.Nodes[a.Node], h.answer = after, answer
	return true
}

func (h *handPair) actsAt(n impl.Node, a impl.Act) bool {
	switch a.Kind {
	case 1:
		return h.asks(n, a)
	case 2:
		after, msgs, done := toldByHand(n, a.N, a.Torn)
		if done && a.N == 4 {
			h.event(impl.Event{Kind: 3})
		}
		if done {
			h.does(after, msgs)
		}
		return done
	case 6:
		if n.Record.State == 1 {
			h.event(impl.Event{Kind: 2, Set: a.N})
		}
		h.p.Nodes[a.Node] = fallenByHand(n, a.N&255)
		return n.Up && between(a.N, 0, 255)
	}
	_, whole, _ := recalledByHand(n.Log)
	h.p.Nodes[a.Node].Log, h.p.Nodes[a.Node].Up = whole, true
	return !n.Up
}

func (h *handPair) actsOnPost(a impl.Act) bool {
	left, m, there := takenByHand(h.p.Post, a.N)
	switch {
	case !there:
		return false
	case a.Kind == 5:
		h.p.Post = append(h.p.Post, m)
		return true
	}
	h.p.Post = left
	if a.Kind == 3 {
		after, msgs, _ := heardByHand(h.p.Nodes[m.To], m, a.Torn)
		h.does(after, msgs)
	}
	return true
}

func happenByHand(p impl.Pair, a impl.Act) (impl.Pair, impl.Answer, bool) {
	if !pairOkByHand(p) {
		return impl.Pair{}, noneAnswer, false
	}
	h, done := handPair{p: clonePair(p), answer: noneAnswer}, false
	switch {
	case a.Torn < 0:
		// It is out of range whatever the kind.
	case between(a.Kind, 3, 5):
		done = h.actsOnPost(a)
	case between(a.Kind, 1, 7) && between(a.Node, 0, 1):
		done = h.actsAt(cloneNode(p.Nodes[a.Node]), a)
	}
	if !done || len(h.p.Post) > 40 || len(h.p.Events) > 300 {
		return clonePair(p), noneAnswer, false
	}
	return h.p, h.answer, true
}

// wantHappen holds what happened against the given, and wants the pair that was given as it was.
func wantHappen(t *testing.T, p impl.Pair, a impl.Act, want impl.Pair, answer impl.Answer, done bool) {
	t.Helper()
	before := clonePair(p)
	got, told, is := impl.Happen(p, a)
	if is != done || told != answer || !samePair(got, want) {
		t.Errorf("Happen %+v of\n%s\n=\n%s, %v, %v, not\n%s, %v, %v", a, showPair(before), showPair(got), told, is, showPair(want), answer, done)
	}
	if !samePair(p, before) {
		t.Errorf("Happen %+v of\n%s: it is\n%s now", a, showPair(before), showPair(p))
	}
}

func wantDone(t *testing.T, p impl.Pair, a impl.Act, want impl.Pair) {
	t.Helper()
	wantHappen(t, p, a, want, noneAnswer, true)
}

// wantPairStays wants it as it is, SaNone and false.
func wantPairStays(t *testing.T, p impl.Pair, a impl.Act) {
	t.Helper()
	wantHappen(t, p, a, p, noneAnswer, false)
}

func wantHappenByHand(t *testing.T, p impl.Pair, a impl.Act) (done bool) {
	t.Helper()
	want, answer, done := happenByHand(p, a)
	wantHappen(t, p, a, want, answer, done)
	return done
}

func wantOwners(t *testing.T, p impl.Pair, want int64) {
	t.Helper()
	if got := impl.Owners(p); got != want {
		t.Errorf("Owners of\n%s\n= %d, not %d", showPair(p), got, want)
	}
}

// eachKindOfAct are acts of which each would be done with some pair, and some that never are.
func eachKindOfAct() []impl.Act {
	list := []impl.Act{{}, {Kind: 8}, {Kind: -1}, {Kind: impl.AcFall, Torn: -1}, {Kind: impl.AcLose, Torn: -1}}
	for node := range int64(2) {
		list = append(list,
			impl.Act{Kind: impl.AcAsk, Node: node, Who: 1, Bytes: bytesOf(writeOf(0, 9))},
			impl.Act{Kind: impl.AcTold, Node: node, N: impl.GoMove},
			impl.Act{Kind: impl.AcFall, Node: node, N: 1},
			impl.Act{Kind: impl.AcRise, Node: node})
	}
	for kind := int64(impl.AcHear); kind <= impl.AcTwice; kind++ {
		list = append(list, impl.Act{Kind: kind}, impl.Act{Kind: kind, N: 1})
	}
	return list
}

// wantNoPair wants of what is no pair the answer to that alone, whatever happens.
func wantNoPair(t *testing.T, what string, p impl.Pair) {
	t.Helper()
	if impl.PairOk(p) {
		t.Errorf("%s: PairOk of\n%s\n= true", what, showPair(p))
	}
	wantOwners(t, p, -1)
	wantOwned(t, what, p, impl.Store{})
	wantAgreed(t, what, p, false)
	wantCalm(t, what, p, impl.Pair{})
	wantMoved(t, what, p, impl.Pair{})
	wantOwnerOf(t, what, p, -1)
	for _, a := range eachKindOfAct() {
		wantHappen(t, p, a, impl.Pair{}, noneAnswer, false)
	}
}

func wantPair(t *testing.T, what string, p impl.Pair, owners int64) {
	t.Helper()
	if !impl.PairOk(p) {
		t.Errorf("%s: PairOk of\n%s\n= false", what, showPair(p))
	}
	wantOwners(t, p, owners)
}

func TestPairConstants(t *testing.T) {
	events := [...]int64{impl.EvCmd, impl.EvLoss, impl.EvKeep}
	acts := [...]int64{impl.AcAsk, impl.AcTold, impl.AcHear, impl.AcLose, impl.AcTwice, impl.AcFall, impl.AcRise}
	if events != [...]int64{1, 2, 3} || acts != [...]int64{1, 2, 3, 4, 5, 6, 7} {
		t.Errorf("constants %v, %v", events, acts)
	}
}

func TestNewPair(t *testing.T) {
	for blocks := int64(1); blocks <= 8; blocks++ {
		rows := func() impl.Disk { return diskOf(make([]int64, blocks), make([]int64, blocks)) }
		free := held(0, -1, 0, 0, 0, 0, 0)
		want := impl.Pair{Nodes: []impl.Node{
			{Id: 0, Up: true, Disk: rows(), Holding: free, Log: "14 670154 record 1 1 0 0\n", Record: impl.Record{Epoch: 1, State: impl.StOwner}},
			{Id: 1, Up: true, Disk: rows(), Holding: free, Log: "14 998453 record 0 3 0 0\n", Record: impl.Record{Epoch: 0, State: impl.StOther}},
		}}
		got, made := impl.NewPair(blocks)
		if !made || !samePair(got, want) {
			t.Errorf("NewPair(%d) =\n%s, %v", blocks, showPair(got), made)
		}
		wantPair(t, "new", got, 1)
		wantApart(t, "NewPair", listsOfPair(got))
		if again, _ := impl.NewPair(blocks); !samePair(again, want) {
			t.Errorf("NewPair(%d) =\n%s after its answer was written over", blocks, showPair(again))
		}
	}
	for _, blocks := range append([]int64{0}, notCounts...) {
		if p, made := impl.NewPair(blocks); made || !noPair(p) {
			t.Errorf("NewPair(%d) =\n%s, %v", blocks, showPair(p), made)
		}
	}
}

// houseOf has three blocks, Epoch 4, Tried 6 and Seen 6.
func houseOf(id int64, state int64, copier string) impl.Node {
	return edited(stateNode(state, copier), func(n *impl.Node) { n.Id = id })
}

func TestPairOkOfTwoNodes(t *testing.T) {
	a, b := houseOf(0, impl.StOwner, "dirty"), houseOf(1, impl.StOther, "none")
	wantPair(t, "two", impl.Pair{Nodes: []impl.Node{a, b}}, 1)
	third := edited(b, func(n *impl.Node) { n.Id = 0 })
	otherA := edited(a, func(n *impl.Node) { n.Id = 1 })
	for _, one := range []struct {
		what  string
		nodes []impl.Node
	}{
		{"no Nodes", nil},
		{"no Nodes at all", []impl.Node{}},
		{"the first alone", []impl.Node{a}},
		{"the second alone", []impl.Node{b}},
		{"three", []impl.Node{a, b, third}},
		{"three, the last as the second", []impl.Node{a, b, b}},
		{"four", []impl.Node{a, b, a, b}},
		{"in the other order", []impl.Node{b, a}},
		{"twice 0", []impl.Node{a, third}},
		{"twice 1", []impl.Node{otherA, b}},
		{"the first twice", []impl.Node{a, a}},
		{"the second twice", []impl.Node{b, b}},
		{"two zero ones", []impl.Node{{}, {}}},
		{"the first, and a zero one", []impl.Node{a, {}}},
		{"a zero one, and the second", []impl.Node{{}, b}},
	} {
		wantNoPair(t, one.what, impl.Pair{Nodes: one.nodes})
		wantNoPair(t, one.what, impl.Pair{Nodes: one.nodes, Post: postOf(3, 0), Events: eventsOf(3)})
	}
	for _, id := range append([]int64{2, 3}, farNumbers...) {
		wantNoPair(t, "another Id", impl.Pair{Nodes: []impl.Node{edited(a, func(n *impl.Node) { n.Id = id }), b}})
		wantNoPair(t, "another Id", impl.Pair{Nodes: []impl.Node{a, edited(b, func(n *impl.Node) { n.Id = id })}})
	}
	wantNoPair(t, "the zero Pair", impl.Pair{})
}

func TestPairOkOfAsManyBlocks(t *testing.T) {
	record := impl.Record{Epoch: 4, State: impl.StOther}
	for a := 1; a <= 8; a++ {
		for b := 1; b <= 8; b++ {
			p := pairOf(nodeOf(0, a, record), nodeOf(1, b, record))
			if a == b {
				wantPair(t, "as many", p, 0)
				continue
			}
			wantNoPair(t, fmt.Sprint(a, " and ", b, " blocks"), p)
		}
	}
}

func TestPairOkOfNodesThatAreNotRight(t *testing.T) {
	for k, b := range nodeBreaches() {
		// What is too long is as slow as it is wrong, and one of each is enough.
		if k%4 != 0 || len(b.n.Log) > 50000 {
			continue
		}
		blocks := max(1, len(b.n.Disk.Now))
		if blocks > 8 {
			blocks = 8
		}
		right := nodeOf(0, blocks, impl.Record{Epoch: 4, State: impl.StOther})
		wantNoPair(t, b.what, impl.Pair{Nodes: []impl.Node{right, b.n}})
		swapped := edited(b.n, func(n *impl.Node) { n.Id = 1 - n.Id })
		wantNoPair(t, b.what, impl.Pair{Nodes: []impl.Node{swapped, edited(right, func(n *impl.Node) { n.Id = 1 })}})
	}
}

func TestPairOkOfThePost(t *testing.T) {
	p, _ := impl.NewPair(2)
	for n := range 41 {
		wantPair(t, "a post", withPost(p, postOf(n, 0)), 1)
	}
	for _, n := range []int{41, 42, 80, 296} {
		wantNoPair(t, fmt.Sprint(n, " Msgs"), withPost(p, postOf(n, 0)))
	}
	wrong := wrongMsgs()
	for k := 0; k < len(wrong); k += 3 {
		for _, n := range []int{1, 3, 40} {
			wantNoPair(t, "a Msg that is not right", withPost(p, withMsg(postOf(n, 0), k%n, wrong[k])))
		}
	}
}

func TestPairOkOfSoManyEvents(t *testing.T) {
	p, _ := impl.NewPair(2)
	for _, n := range []int{0, 1, 2, 3, 299, 300} {
		wantPair(t, fmt.Sprint(n, " Events"), withEvents(p, eventsOf(n)), 1)
	}
	for _, n := range []int{301, 302, 512, 600} {
		wantNoPair(t, fmt.Sprint(n, " Events"), withEvents(p, eventsOf(n)))
	}
	for _, n := range []int{1, 2, 3, 300} {
		for _, at := range []int{0, n / 2, n - 1} {
			for _, wrong := range []impl.Event{{}, {Kind: 4}, {Kind: impl.EvKeep, Set: 1}, {Kind: impl.EvLoss, Set: 256}, {Kind: impl.EvCmd, Who: 4}} {
				wantNoPair(t, "an Event that is not right", editedPair(p, func(p *impl.Pair) { p.Events = eventsOf(n); p.Events[at] = wrong }))
			}
		}
	}
}

// Each field of an Event of each Kind, by itself, at its limits and past them.
func TestPairOkOfEachField(t *testing.T) {
	p, _ := impl.NewPair(2)
	want := func(e impl.Event, is bool) {
		t.Helper()
		for _, list := range [][]impl.Event{{e}, {eventNumbered(0), e, eventNumbered(1)}} {
			if is {
				wantPair(t, fmt.Sprintf("%+v", e), withEvents(p, list), 1)
			} else {
				wantNoPair(t, fmt.Sprintf("%+v", e), withEvents(p, list))
			}
		}
	}
	numbers := []struct {
		most func(eventMost) int64
		set  func(*impl.Event, int64)
	}{
		{func(m eventMost) int64 { return m.who }, func(e *impl.Event, n int64) { e.Who = n }},
		{func(m eventMost) int64 { return m.status }, func(e *impl.Event, n int64) { e.Answer.Status = n }},
		{func(m eventMost) int64 { return m.set }, func(e *impl.Event, n int64) { e.Set = n }},
	}
	for kind := int64(1); kind <= 3; kind++ {
		for _, field := range numbers {
			most := field.most(mostOfKind[kind])
			for _, n := range append([]int64{0, 1, 2, 3, 4, 5, 6, 7, 8, 9, 255, most, most + 1}, farNumbers...) {
				e := impl.Event{Kind: kind}
				field.set(&e, n)
				want(e, n >= 0 && n <= most)
			}
		}
		for _, n := range []int{0, 1, 7, 8, 9, 19, 20, 21, 22, 256, 276, 300} {
			for _, b := range []string{"\x00", "a", "\n", "\xff"} {
				want(impl.Event{Kind: kind, Bytes: strings.Repeat(b, n)}, kind == 1 && n <= 20 || n == 0)
			}
			want(impl.Event{Kind: kind, Answer: impl.Answer{Text: strings.Repeat("t", 50*n)}}, kind == 1 || n == 0)
		}
	}
	full := impl.Event{Kind: impl.EvCmd, Who: 3, Bytes: strings.Repeat("\xff", 20), Answer: impl.Answer{Status: impl.SaNone, Text: "x"}}
	want(full, true)
	full.Set = 1
	want(full, false)
	for _, kind := range append([]int64{0, 4, 5}, farNumbers...) {
		want(impl.Event{Kind: kind}, false)
		want(impl.Event{Kind: kind, Who: 1, Bytes: "x"}, false)
		want(impl.Event{Kind: kind, Set: 1}, false)
	}
}

// Owners counts StOwner alone, and does not ask who is Up.
func TestOwnersWrittenOut(t *testing.T) {
	for _, a := range threeStates {
		for _, b := range threeStates {
			want := int64(0)
			for _, state := range []int64{a, b} {
				if state == impl.StOwner {
					want++
				}
			}
			for _, aUp := range eachFlag {
				for _, bUp := range eachFlag {
					p := pairOf(houseOf(0, a, "none"), houseOf(1, b, "none"))
					p.Nodes[0].Up, p.Nodes[1].Up = aUp, bUp
					wantPair(t, fmt.Sprint("States ", a, " and ", b), p, want)
					wantPair(t, "with letters and Events", withEvents(withPost(p, postOf(40, 0)), eventsOf(300)), want)
				}
			}
		}
	}
	two := pairOf(houseOf(0, impl.StOwner, "none"), houseOf(1, impl.StOwner, "none"))
	wantOwners(t, two, 2)
	wantOwners(t, impl.Pair{Nodes: two.Nodes[:1]}, -1)
	wantOwners(t, withEvents(two, eventsOf(301)), -1)
	wantOwners(t, withPost(two, postOf(41, 0)), -1)
}
