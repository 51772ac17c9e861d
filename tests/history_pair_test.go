package tests

import (
	"fmt"
	"math/rand"
	"slices"
	"testing"

	"loop.example/g00354/impl"
)

// keeperByHand, ownedByHand and agreedByHand tell the chapter a second time. The first of them wants a pair.
func keeperByHand(p impl.Pair) (s impl.Store, found bool) {
	for k := range 4 {
		if n := p.Nodes[k%2]; n.Record.State == int64(1+k/2) {
			return storeOfNode(n), true
		}
	}
	return impl.Store{}, false
}

func ownedByHand(p impl.Pair) impl.Store {
	if !pairOkByHand(p) {
		return impl.Store{}
	}
	s, _ := keeperByHand(p)
	return s
}

func agreedByHand(p impl.Pair) bool {
	if !pairOkByHand(p) || p.Nodes[0].Record.State == 1 && p.Nodes[1].Record.State == 1 {
		return false
	}
	s, same := replayedByHand(int64(len(p.Nodes[0].Disk.Now)), p.Events)
	owned, found := keeperByHand(p)
	return same && (!found || sameStore(owned, s))
}

// wantOwned and wantAgreed want the pair that was given as it was, too.
func wantOwned(t *testing.T, what string, p impl.Pair, want impl.Store) {
	t.Helper()
	before := clonePair(p)
	if got := impl.Owned(p); !sameStore(got, want) {
		t.Errorf("%s: Owned of\n%s\n= %v, not %v", what, showPair(before), got, want)
	}
	if !samePair(p, before) {
		t.Errorf("%s: Owned of\n%s: it is\n%s now", what, showPair(before), showPair(p))
	}
}

func wantAgreed(t *testing.T, what string, p impl.Pair, want bool) {
	t.Helper()
	before := clonePair(p)
	if got := impl.Agreed(p); got != want {
		t.Errorf("%s: Agreed of\n%s\n= %v", what, showPair(before), got)
	}
	if !samePair(p, before) {
		t.Errorf("%s: Agreed of\n%s: it is\n%s now", what, showPair(before), showPair(p))
	}
}

func wantHistoryByHand(t *testing.T, what string, p impl.Pair) (agreed bool) {
	t.Helper()
	wantOwned(t, what, p, ownedByHand(p))
	agreed = agreedByHand(p)
	wantAgreed(t, what, p, agreed)
	return agreed
}

// eventsTo is a history of which a right store comes. Its Turn is at least how many are registered, and small.
func eventsTo(t *testing.T, s impl.Store) []impl.Event {
	t.Helper()
	h := newHistory(int64(len(s.Disk.Now)))
	writes := func(row []int64) {
		for at, value := range row {
			h.asks(2, writeOf(int64(at), value))
		}
	}
	writes(s.Disk.Kept)
	h.adds(keepEvent)
	writes(s.Disk.Now)
	people := slices.DeleteFunc(slices.Clone(fourPeople), func(who int64) bool { return s.Holding.Keys[who] == 0 })
	for range s.Holding.Turn - int64(max(1, len(people))) {
		h.asks(append(people, 3)[0], registerOf(1))
	}
	for _, who := range people {
		h.asks(who, registerOf(s.Holding.Keys[who]))
	}
	if len(people) == 0 && s.Holding.Turn > 0 {
		h.asks(3, registerOf(0))
	}
	if who := s.Holding.Holder; who >= 0 {
		h.asks(who, reserveOf(s.Holding.Kind))
	} else if s.Holding.Kind > 0 {
		h.asks(people[0], reserveOf(s.Holding.Kind))
	}
	if !sameStore(h.s, s) {
		t.Fatalf("%v comes of those Events, not %v", h.s, s)
	}
	return h.list
}

func storeOfNode(n impl.Node) impl.Store { return cloneStore(storeOf(n.Disk, n.Holding)) }

// twoHouses are of these States, with stores that have nothing in common: not one block, not the Turn.
func twoHouses(a, b int64) impl.Pair {
	p := pairOf(houseOf(0, a, "none"), houseOf(1, b, "none"))
	p.Nodes[1].Disk = diskOf(ramp(3, 15), ramp(3, 60))
	p.Nodes[1].Holding = held(6, -1, 4, 0, 6, 8, 0)
	return p
}

// stateRows tell of each two States which house's store is Owned (-1: none), and whether that can be Agreed.
var stateRows = []struct {
	a, b    int64
	owned   int
	canBeSo bool
}{
	{impl.StOwner, impl.StOwner, 0, false},
	{impl.StOwner, impl.StHanding, 0, true},
	{impl.StOwner, impl.StOther, 0, true},
	{impl.StHanding, impl.StOwner, 1, true},
	{impl.StHanding, impl.StHanding, 0, true},
	{impl.StHanding, impl.StOther, 0, true},
	{impl.StOther, impl.StOwner, 1, true},
	{impl.StOther, impl.StHanding, 1, true},
	{impl.StOther, impl.StOther, -1, true},
}

func TestOwnedAndAgreedOfEachTwoStates(t *testing.T) {
	for _, row := range stateRows {
		for _, aUp := range eachFlag {
			for _, bUp := range eachFlag {
				p := twoHouses(row.a, row.b)
				p.Nodes[0].Up, p.Nodes[1].Up = aUp, bUp
				p.Post = postOf(3, 0)
				what := fmt.Sprintf("States %d and %d, up %v and %v", row.a, row.b, aUp, bUp)
				want := impl.Store{}
				if row.owned >= 0 {
					want = storeOfNode(p.Nodes[row.owned])
				}
				wantOwned(t, what, p, want)
				for k, n := range p.Nodes {
					told := withEvents(p, eventsTo(t, storeOfNode(n)))
					wantOwned(t, what, told, want)
					wantAgreed(t, fmt.Sprint(what, ", told of ", k), told, row.canBeSo && (row.owned < 0 || row.owned == k))
				}
				wantAgreed(t, what+", told of nothing", p, row.owned < 0)
				other := withEvents(p, append(eventsTo(t, storeOfNode(p.Nodes[max(0, row.owned)])), cmdEvent(1, "", impl.SaBad, "2")))
				wantAgreed(t, what+", told of something else", other, false)
			}
		}
	}
}

// Two that own are not Agreed, also where both have all in common.
func TestTwoThatOwnAreNotAgreed(t *testing.T) {
	for _, up := range eachFlag {
		p := pairOf(houseOf(0, impl.StOwner, "none"), houseOf(1, impl.StOwner, "none"))
		p.Nodes[0].Up, p.Nodes[1].Up = up, up
		told := withEvents(p, eventsTo(t, storeOfNode(p.Nodes[0])))
		wantAgreed(t, "two that own", told, false)
		wantOwned(t, "two that own", told, storeOfNode(p.Nodes[0]))
		one := editedPair(told, func(p *impl.Pair) { p.Nodes[1] = houseOf(1, impl.StHanding, "none") })
		wantAgreed(t, "one that owns, one that hands over", one, true)
	}
	fresh, _ := impl.NewPair(1)
	n, _ := impl.NewNode(1, 1, true)
	fresh.Nodes[1] = n
	wantAgreed(t, "two new ones that own", fresh, false)
}

func TestANewPairIsAgreed(t *testing.T) {
	for blocks := int64(1); blocks <= 8; blocks++ {
		p, _ := impl.NewPair(blocks)
		wantAgreed(t, "new", p, true)
		wantOwned(t, "new", p, newStoreByHand(blocks))
	}
	wantAgreed(t, "the zero Pair", impl.Pair{}, false)
	wantOwned(t, "the zero Pair", impl.Pair{}, impl.Store{})
}

func happened(t *testing.T, p impl.Pair, acts ...impl.Act) impl.Pair {
	t.Helper()
	for _, a := range acts {
		after, _, done := impl.Happen(p, a)
		if !done {
			t.Fatalf("%+v is not done with\n%s", a, showPair(p))
		}
		p = after
	}
	return p
}

// carryAll hears the first letter until there is none.
func carryAll(t *testing.T, p impl.Pair) impl.Pair {
	t.Helper()
	for len(p.Post) > 0 {
		p = happened(t, p, hearOf(0, 0))
	}
	return p
}

func movedOver(t *testing.T, p impl.Pair, node int64) impl.Pair {
	t.Helper()
	p = carryAll(t, happened(t, p, tellOf(node, impl.GoMove, 0)))
	for range p.Nodes[0].Disk.Now {
		p = carryAll(t, happened(t, p, tellOf(node, impl.GoCopy, 0)))
	}
	return happened(t, p, tellOf(node, impl.GoHand, 0))
}

// A toldPair has come about from a new one, and is Agreed.
type toldPair struct {
	what string
	// at is the house whose store it is.
	at int64
	p  impl.Pair
}

// toldPairs are of three blocks that are not all kept, with three that are registered and one that holds it: in the first house, handed over, in the second one, and back again.
func toldPairs(t *testing.T) []toldPair {
	p, _ := impl.NewPair(3)
	ask := func(node int64, who int64, cmds ...impl.Cmd) {
		for _, c := range cmds {
			p = happened(t, p, askOf(node, who, bytesOf(c)))
		}
	}
	ask(0, 0, registerOf(5))
	ask(0, 1, registerOf(6))
	ask(0, 2, registerOf(7), reserveOf(impl.KiRegAll))
	ask(0, 2, writeOf(0, 11), writeOf(1, 12), syncCmd, writeOf(1, 13), writeOf(2, 14))
	p = happened(t, p, fallOf(0, 2), riseOf(0))
	ask(0, 1, writeOf(2, 15), swapOf(0, 11, 16), readOf(2))
	ask(0, 3, readOf(2), keysCmd)
	p = happened(t, p, askOf(0, 3, "no command"))
	list := []toldPair{{"owned", 0, p}}
	p = movedOver(t, p, 0)
	list = append(list, toldPair{"handed over", 0, p})
	p = happened(t, p, hearOf(0, 0))
	list = append(list, toldPair{"taken", 1, p})
	p = carryAll(t, p)
	ask(1, 1, writeOf(0, 21))
	list = append(list, toldPair{"moved", 1, p})
	p = happened(t, p, fallOf(1, 0))
	list = append(list, toldPair{"moved, and down", 1, p})
	p = carryAll(t, movedOver(t, happened(t, p, riseOf(1)), 1))
	ask(0, 1, writeOf(1, 22))
	return append(list, toldPair{"moved back", 0, p})
}

// A nodeTurn changes one thing of a house, which is a right one still.
type nodeTurn struct {
	what string
	turn func(n *impl.Node)
}

func storeTurns() []nodeTurn {
	list := []nodeTurn{}
	add := func(what string, turn func(n *impl.Node)) { list = append(list, nodeTurn{what, turn}) }
	for at := range 3 {
		for _, by := range []int64{1, 9000} {
			add(fmt.Sprint("Now of ", at), func(n *impl.Node) { n.Disk.Now[at] += by })
			add(fmt.Sprint("Kept of ", at), func(n *impl.Node) { n.Disk.Kept[at] += by })
			add(fmt.Sprint("both of ", at), func(n *impl.Node) { n.Disk.Now[at] += by; n.Disk.Kept[at] += by })
		}
	}
	for who := range 4 {
		add(fmt.Sprint("the Key of ", who), func(n *impl.Node) { n.Holding.Keys[who]++ })
		if who < 2 {
			add(fmt.Sprint("no Key of ", who), func(n *impl.Node) { n.Holding.Keys[who] = 0 })
		}
	}
	for kind := int64(1); kind <= 3; kind++ {
		add(fmt.Sprint("Kind ", kind), func(n *impl.Node) { n.Holding.Kind = kind })
	}
	for holder := range int64(2) {
		add(fmt.Sprint("Holder ", holder), func(n *impl.Node) { n.Holding.Holder = holder })
	}
	add("nothing held", func(n *impl.Node) { n.Holding.Kind, n.Holding.Holder = 0, -1 })
	add("held by all", func(n *impl.Node) { n.Holding.Kind, n.Holding.Holder = impl.KiAllBoth, -1 })
	for _, turn := range []int64{0, 2, 4, 1000000000} {
		add(fmt.Sprint("Turn ", turn), func(n *impl.Node) { n.Holding.Turn = turn })
	}
	return list
}

// Where anything of the store is another one in the house whose store it is, it is not Agreed; in the other house, and beside the store, all of it is no matter.
func TestAgreedOfAHouseThatWasTurned(t *testing.T) {
	for _, one := range toldPairs(t) {
		wantAgreed(t, one.what, one.p, true)
		wantOwned(t, one.what, one.p, storeOfNode(one.p.Nodes[one.at]))
		for _, turned := range storeTurns() {
			what := one.what + ", " + turned.what
			p := editedPair(one.p, func(p *impl.Pair) { turned.turn(&p.Nodes[one.at]) })
			wantPair(t, what, p, impl.Owners(one.p))
			wantAgreed(t, what, p, false)
			wantOwned(t, what, p, storeOfNode(p.Nodes[one.at]))
			other := editedPair(one.p, func(p *impl.Pair) {
				p.Nodes[1-one.at].Holding = cloneHolding(p.Nodes[one.at].Holding)
				turned.turn(&p.Nodes[1-one.at])
			})
			wantPair(t, what+" of the other one", other, impl.Owners(one.p))
			wantAgreed(t, what+" of the other one", other, true)
		}
		for _, beside := range besideTurns() {
			p := editedPair(one.p, func(p *impl.Pair) { beside.turn(&p.Nodes[one.at]) })
			wantPair(t, beside.what, p, impl.Owners(one.p))
			wantAgreed(t, one.what+", "+beside.what, p, true)
			wantAgreed(t, one.what+", "+beside.what, withPost(p, postOf(40, 0)), true)
		}
	}
}

// besideTurns leave the store, and who owns it.
func besideTurns() []nodeTurn {
	return []nodeTurn{
		{"no Copier", func(n *impl.Node) { n.Copier = impl.Copier{} }},
		{"not Up", func(n *impl.Node) { n.Copier, n.Up = impl.Copier{}, false }},
		{"another Record", func(n *impl.Node) {
			r := n.Record
			r.Epoch, r.Tried, r.Seen = 77, 8, 9
			*n = notedNode(edited(*n, func(n *impl.Node) { n.Copier = impl.Copier{} }), r)
		}},
	}
}

// An eventTurn changes the list of Events, of which all are right still.
type eventTurn struct {
	what string
	turn func(list []impl.Event) []impl.Event
}

func turnsAt(at int, e impl.Event) []eventTurn {
	list := []eventTurn{}
	add := func(what string, turned impl.Event) {
		list = append(list, eventTurn{fmt.Sprint(what, " of Event ", at), func(list []impl.Event) []impl.Event {
			list = slices.Clone(list)
			list[at] = turned
			return list
		}})
	}
	if e.Kind == impl.EvLoss {
		for set := range int64(8) {
			add(fmt.Sprint("Set ", set), lossEvent(set))
		}
		add("the Kind", keepEvent)
	}
	if e.Kind != impl.EvCmd {
		return list
	}
	for k := range e.Bytes {
		bytes := []byte(e.Bytes)
		bytes[k] ^= 1
		add(fmt.Sprint("byte ", k), cmdEvent(e.Who, string(bytes), e.Answer.Status, e.Answer.Text))
		if len(bytes) == 8 && k < 7 {
			add(fmt.Sprint("byte ", k, " and the sum"), cmdEvent(e.Who, summed(string(bytes[:7])), e.Answer.Status, e.Answer.Text))
		}
	}
	for who := range int64(4) {
		add(fmt.Sprint("Who ", who), cmdEvent(who, e.Bytes, e.Answer.Status, e.Answer.Text))
	}
	for status := range int64(8) {
		add(fmt.Sprint("Status ", status), cmdEvent(e.Who, e.Bytes, status, e.Answer.Text))
	}
	add("the Text", cmdEvent(e.Who, e.Bytes, e.Answer.Status, e.Answer.Text+"1"))
	return list
}

// eventTurns are all of these, and what comes of one Event that is missing, or there twice, or in the place of the next one.
func eventTurns(list []impl.Event) []eventTurn {
	all := []eventTurn{}
	for at, e := range list {
		all = append(all, turnsAt(at, e)...)
		all = append(all,
			eventTurn{fmt.Sprint("without Event ", at), func(list []impl.Event) []impl.Event { return slices.Delete(slices.Clone(list), at, at+1) }},
			eventTurn{fmt.Sprint("twice Event ", at), func(list []impl.Event) []impl.Event { return slices.Insert(slices.Clone(list), at, list[at]) }},
			eventTurn{fmt.Sprint("late Event ", at), func(list []impl.Event) []impl.Event {
				list = slices.Clone(list)
				next := (at + 1) % len(list)
				list[at], list[next] = list[next], list[at]
				return list
			}})
	}
	return all
}

// Where an Event is another one it is not Agreed, but where the same comes of that.
func TestAgreedOfAnEventThatWasTurned(t *testing.T) {
	agreed, not, alone := 0, 0, 0
	for _, one := range toldPairs(t) {
		for _, turned := range eventTurns(one.p.Events) {
			p := withEvents(one.p, turned.turn(one.p.Events))
			wantPair(t, turned.what, p, impl.Owners(one.p))
			if wantHistoryByHand(t, one.what+", "+turned.what, p) {
				agreed++
				continue
			}
			not++
			// All Answers are those, and the store alone is another one.
			if _, same := replayedByHand(3, p.Events); same {
				alone++
			}
		}
	}
	if agreed < 50 || not < 1000 || alone < 100 {
		t.Errorf("%d Agreed, %d not, %d of these for the store alone", agreed, not, alone)
	}
}

// The same, written out: one thing of one Event, of which another store comes.
func TestAgreedOfEventsWrittenOut(t *testing.T) {
	p, _ := impl.NewPair(1)
	p = happened(t, p, askOf(0, 1, bytesOf(registerOf(5))), askOf(0, 1, bytesOf(writeOf(0, 258))), fallOf(0, 1), riseOf(0), askOf(0, 1, bytesOf(readOf(0))))
	right := []impl.Event{
		cmdEvent(1, "\x06\x00\x00\x05\x00\x00\x00\xf4", impl.SaGood, ""),
		cmdEvent(1, "\x02\x00\x01\x02\x00\x00\x00\xfa", impl.SaGood, ""),
		lossEvent(1),
		cmdEvent(1, "\x01\x00\x00\x00\x00\x00\x00\xfe", impl.SaGood, "258"),
	}
	if !slices.Equal(p.Events, right) {
		t.Fatalf("Events %+v", p.Events)
	}
	for _, one := range []struct {
		what string
		at   int
		e    impl.Event
		want bool
	}{
		{"as it was", 0, right[0], true},
		{"another Who", 0, cmdEvent(2, right[0].Bytes, impl.SaGood, ""), false},
		{"another key", 0, cmdEvent(1, bytesOf(registerOf(4)), impl.SaGood, ""), false},
		{"another Status", 0, cmdEvent(1, right[0].Bytes, impl.SaRange, ""), false},
		{"a Text", 0, cmdEvent(1, right[0].Bytes, impl.SaGood, "1"), false},
		{"another Who, of whom the same comes", 1, cmdEvent(2, right[1].Bytes, impl.SaGood, ""), true},
		{"another value", 1, cmdEvent(1, bytesOf(writeOf(0, 259)), impl.SaGood, ""), false},
		{"a sum that is wrong", 1, cmdEvent(1, "\x02\x00\x01\x02\x00\x00\x00\xfb", impl.SaGood, ""), false},
		{"a sum that is wrong, told so", 1, cmdEvent(1, "\x02\x00\x01\x02\x00\x00\x00\xfb", impl.SaBad, "3"), false},
		{"another Set", 2, lossEvent(0), false},
		{"another Set that takes nothing either", 2, lossEvent(255), true},
		{"another Kind that takes nothing either", 2, keepEvent, true},
		{"another Text", 3, cmdEvent(1, right[3].Bytes, impl.SaGood, "259"), false},
		{"no Text", 3, cmdEvent(1, right[3].Bytes, impl.SaGood, ""), false},
		{"a command that is none, told so", 3, cmdEvent(1, "", impl.SaBad, "1"), true},
		{"SaBusy", 3, cmdEvent(1, right[3].Bytes, impl.SaBusy, ""), false},
		{"SaMoved", 3, cmdEvent(1, right[3].Bytes, impl.SaMoved, ""), false},
		{"SaNone", 3, cmdEvent(1, right[3].Bytes, impl.SaNone, ""), false},
	} {
		list := slices.Clone(right)
		list[one.at] = one.e
		wantAgreed(t, one.what, withEvents(p, list), one.want)
	}
}

// With 300 Events it is Agreed still; with one more it is no pair, though they Replay.
func TestAgreedUpToAsManyEventsAsThereMayBe(t *testing.T) {
	p, _ := impl.NewPair(2)
	for _, n := range []int{0, 1, 299, 300, 301, 400} {
		h := newHistory(2)
		for k := range n {
			h.asks(1, writeOf(int64(k)%2, int64(k)))
		}
		told := editedPair(p, func(p *impl.Pair) { p.Events, p.Nodes[0].Disk = h.list, cloneDisk(h.s.Disk) })
		wantAgreed(t, fmt.Sprint(n, " Events"), told, n <= 300)
		want := h.s
		if n > 300 {
			want = impl.Store{}
		}
		wantOwned(t, fmt.Sprint(n, " Events"), told, want)
		h.wantReplayed(t)
	}
}

// What is no pair is not Agreed, and nothing is Owned there, though all else is as it was.
func TestAgreedOfNoPair(t *testing.T) {
	for _, one := range toldPairs(t) {
		for _, broken := range []struct {
			what string
			edit func(p *impl.Pair)
		}{
			{"an Id", func(p *impl.Pair) { p.Nodes[0].Id = 2 }},
			{"the other order", func(p *impl.Pair) { slices.Reverse(p.Nodes) }},
			{"the first alone", func(p *impl.Pair) { p.Nodes = p.Nodes[:1] }},
			{"the second alone", func(p *impl.Pair) { p.Nodes = p.Nodes[1:] }},
			{"three", func(p *impl.Pair) { p.Nodes = append(p.Nodes, p.Nodes[1]) }},
			{"none", func(p *impl.Pair) { p.Nodes = nil }},
			{"a block too many in the other one", func(p *impl.Pair) {
				d := &p.Nodes[1-one.at].Disk
				d.Kept, d.Now = append(d.Kept, 0), append(d.Now, 0)
				p.Nodes[1-one.at].Copier, p.Nodes[1-one.at].Sink = impl.Copier{}, impl.Sink{}
			}},
			{"a value of the other one", func(p *impl.Pair) { p.Nodes[1-one.at].Disk.Now[0] = 10000 }},
			{"a Key of the other one", func(p *impl.Pair) { p.Nodes[1-one.at].Holding.Keys[0] = -1 }},
			{"no Log", func(p *impl.Pair) { p.Nodes[0].Log = "" }},
			{"another Record than that of the Log", func(p *impl.Pair) { p.Nodes[1].Record.Epoch++ }},
			{"a Msg", func(p *impl.Pair) { p.Post = append(p.Post, impl.Msg{Kind: 9}) }},
			{"41 Msgs", func(p *impl.Pair) { p.Post = postOf(41, 0) }},
			{"an Event", func(p *impl.Pair) { p.Events = append(p.Events, impl.Event{Kind: 4}) }},
		} {
			wantNoPair(t, one.what+", "+broken.what, editedPair(one.p, broken.edit))
		}
	}
}

// thrownTurn changes something of a pair that is Agreed: of its houses, its Events, or who owns it.
func thrownTurn(source *rand.Rand, p *impl.Pair) {
	n := &p.Nodes[source.Intn(2)]
	at := source.Intn(len(n.Disk.Now))
	switch source.Intn(9) {
	case 0:
		n.Disk.Now[at] = source.Int63n(3)
	case 1:
		n.Disk.Kept[at] = source.Int63n(3)
	case 2:
		n.Holding.Keys[source.Intn(4)] = source.Int63n(4)
	case 3:
		n.Holding.Kind, n.Holding.Holder = source.Int63n(7), source.Int63n(5)-1
	case 4:
		n.Holding.Turn += source.Int63n(3) - 1
	case 5:
		*n = notedNode(edited(*n, func(n *impl.Node) { n.Copier, n.Sink = impl.Copier{}, impl.Sink{} }), impl.Record{Epoch: 7, State: 1 + source.Int63n(3), Tried: 9, Seen: 9})
	case 6:
		p.Nodes[0].Disk, p.Nodes[1].Disk = p.Nodes[1].Disk, p.Nodes[0].Disk
	default:
		if len(p.Events) > 0 {
			k := source.Intn(len(p.Events))
			p.Events[k] = turnedEvent(source, p.Events[k])
		}
	}
}

func TestAgreedThrown(t *testing.T) {
	source := rand.New(rand.NewSource(32))
	agreed, not, none := 0, 0, 0
	for range 400 {
		r, m := newHistoryRow(1+source.Int63n(8), map[string]int{}), thrownHistoryMood(source)
		for range 20 + source.Intn(80) {
			r.does(t, r.thrownAct(source, m))
		}
		for range 12 {
			p := clonePair(r.p)
			for range source.Intn(3) {
				thrownTurn(source, &p)
			}
			switch {
			case wantHistoryByHand(t, "thrown", p):
				agreed++
			case pairOkByHand(p):
				not++
			default:
				none++
			}
		}
	}
	if min(agreed, not, none) < 200 {
		t.Errorf("%d Agreed, %d not, %d no pair", agreed, not, none)
	}
}
