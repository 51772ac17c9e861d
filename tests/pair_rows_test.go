package tests

import (
	"fmt"
	"math"
	"math/rand"
	"slices"
	"strconv"
	"strings"
	"testing"

	"loop.example/g00354/impl"
)

// A pairRow is a pair with what was done to it from a new one on.
type pairRow struct {
	p    impl.Pair
	acts []impl.Act
	did  map[string]int
}

func newPairRow(blocks int64, did map[string]int) *pairRow {
	p, _ := impl.NewPair(blocks)
	return &pairRow{p: p, did: did}
}

// does wants promise 17 of one act, and goes on from there.
func (r *pairRow) does(t *testing.T, a impl.Act) {
	t.Helper()
	before := r.p
	after, answer, done := impl.Happen(before, a)
	r.p, r.acts = after, append(r.acts, a)
	owners := impl.Owners(after)
	switch {
	case !impl.PairOk(after):
		r.fails(t, "it is no pair", before)
	case owners != 0 && owners != 1:
		r.fails(t, fmt.Sprint(owners, " own it"), before)
	case after.Nodes[0].Record.State == impl.StOwner && after.Nodes[1].Record.State == impl.StOwner:
		r.fails(t, "both own it", before)
	case !done && (!samePair(after, before) || answer != noneAnswer):
		r.fails(t, "it is not done, and not as it was", before)
	case len(after.Events) < len(before.Events) || !slices.Equal(after.Events[:len(before.Events)], before.Events):
		r.fails(t, "Events that were there are not", before)
	case a.Kind != impl.AcAsk && answer != noneAnswer:
		r.fails(t, fmt.Sprint("an answer, ", answer), before)
	}
	if done && owners == 0 {
		r.did["nobody owns"]++
	}
	r.count(before, a, done)
}

func (r *pairRow) fails(t *testing.T, what string, before impl.Pair) {
	t.Helper()
	t.Fatalf("%s: act %d of %+v, from\n%s\nto\n%s", what, len(r.acts), r.acts[max(0, len(r.acts)-20):], showPair(before), showPair(r.p))
}

func (r *pairRow) count(before impl.Pair, a impl.Act, done bool) {
	if between(a.Kind, 1, 7) {
		r.did[fmt.Sprint("kind ", a.Kind, ": ", done)]++
	}
	if !done {
		return
	}
	for k, after := range r.p.Nodes {
		was := before.Nodes[k]
		switch {
		case was.Up && !after.Up && a.Kind != impl.AcFall:
			r.did[fmt.Sprint("fell as it noted, of State ", was.Record.State)]++
		case was.Record.State != after.Record.State:
			r.did[fmt.Sprintf("from %d to %d", was.Record.State, after.Record.State)]++
		}
	}
}

// A mood is how a row goes: of 100 acts how many ask, fall, lose and double letters, and how often a letter is not the first one, or is torn.
type mood struct{ asks, falls, loses, late, torn int }

func thrownMood(source *rand.Rand) mood {
	of := func(list ...int) int { return list[source.Intn(len(list))] }
	return mood{asks: of(0, 2, 8, 30), falls: of(0, 1, 2, 6), loses: of(0, 2, 4, 15), late: of(0, 10, 30, 90), torn: of(0, 2, 5, 20)}
}

// thrownAct goes on with what was begun, as a rule.
func (r *pairRow) thrownAct(source *rand.Rand, m mood) impl.Act {
	node := source.Int63n(2)
	n := r.p.Nodes[node]
	k := source.Intn(100)
	switch {
	case source.Intn(40) == 0:
		return thrownActOf(source, r.p)
	case !n.Up && source.Intn(2) == 0:
		return riseOf(node)
	case k < m.asks:
		return askOf(node, thrownPerson(source), bytesOf(thrownStoreCmd(source)))
	case k < m.asks+m.falls:
		return fallOf(node, source.Int63n(256))
	case k < m.asks+m.falls+m.loses:
		return impl.Act{Kind: impl.AcLose + source.Int63n(2), N: r.thrownLetterAt(source, m)}
	case k < 65 && len(r.p.Post) > 0:
		return hearOf(r.thrownLetterAt(source, m), m.thrownTorn(source))
	}
	return tellOf(node, thrownKind(source, n), m.thrownTorn(source))
}

func (m mood) thrownTorn(source *rand.Rand) int64 {
	if source.Intn(100) < m.torn {
		return thrownNear(source, 2, 14, 28, 40000)
	}
	return 0
}

func (r *pairRow) thrownLetterAt(source *rand.Rand, m mood) int64 {
	if len(r.p.Post) > 0 && source.Intn(100) < m.late {
		return source.Int63n(int64(len(r.p.Post)))
	}
	return 0
}

// Promise 17, over long rows of all that can happen to a new pair: letters heard late, twice and never, and houses that fall anywhere.
func TestOneOwner(t *testing.T) {
	t.Parallel()
	source := rand.New(rand.NewSource(26))
	all := map[string]int{}
	for blocks := int64(1); blocks <= 8; blocks++ {
		did := map[string]int{}
		for row := range 40 {
			r, m := newPairRow(blocks, did), thrownMood(source)
			for range 200 + row%4*100 {
				r.does(t, r.thrownAct(source, m))
			}
		}
		for _, what := range []string{"from 1 to 2", "from 2 to 3", "from 3 to 1", "nobody owns"} {
			if did[what] == 0 {
				t.Errorf("of %d blocks: none %s", blocks, what)
			}
		}
		for what, n := range did {
			all[what] += n
		}
	}
	for kind := 1; kind <= 7; kind++ {
		for _, done := range eachFlag {
			if what := fmt.Sprint("kind ", kind, ": ", done); all[what] < 100 {
				t.Errorf("%s %d times", what, all[what])
			}
		}
	}
	for _, what := range []string{"from 1 to 2", "from 2 to 3", "from 3 to 1", "from 2 to 1", "fell as it noted, of State 1", "fell as it noted, of State 2", "fell as it noted, of State 3"} {
		if all[what] < 20 {
			t.Errorf("%s %d times", what, all[what])
		}
	}
}

// The same rows, as told by hand.
func TestRowsOfAPairByHand(t *testing.T) {
	source := rand.New(rand.NewSource(27))
	for range 60 {
		r, m := newPairRow(1+source.Int63n(8), map[string]int{}), thrownMood(source)
		for range 200 {
			a := r.thrownAct(source, m)
			wantHappenByHand(t, r.p, a)
			r.does(t, a)
		}
	}
}

// A post that is never emptied, and Events until there is no room: it goes on being right, and at most one owns it.
func TestOneOwnerWhereThereIsNoRoom(t *testing.T) {
	source := rand.New(rand.NewSource(28))
	fullPost, fullEvents := 0, 0
	for row := range 12 {
		r := newPairRow(1+int64(row%8), map[string]int{})
		m := mood{asks: 80, falls: 1, late: 50, torn: 5}
		if row%2 == 0 {
			m = mood{asks: 2, falls: 1, loses: 35, late: 90, torn: 5}
		}
		for range 1000 {
			a := r.thrownAct(source, m)
			if a.Kind == impl.AcLose && row%2 == 0 {
				a.Kind = impl.AcTwice
			}
			r.does(t, a)
			if len(r.p.Post) == 40 {
				fullPost++
			}
			if len(r.p.Events) == 300 {
				fullEvents++
			}
		}
	}
	if fullPost < 100 || fullEvents < 100 {
		t.Errorf("the post was full %d times, the Events %d times", fullPost, fullEvents)
	}
}

// fullPairRow has new houses whose Logs have room for so many bytes more.
func fullPairRow(blocks int64, room [2]int) *pairRow {
	r := newPairRow(blocks, map[string]int{})
	for k := range r.p.Nodes {
		r.p.Nodes[k].Log = paddedLog(40000-room[k], r.p.Nodes[k].Record)
	}
	return r
}

// Promise 17, where the Logs run full at each place of a move there and back: who would note falls then, and at most one owns it.
func TestOneOwnerWhereTheLogIsFull(t *testing.T) {
	t.Parallel()
	did := map[string]int{}
	for first := range 5 {
		for second := range 5 {
			r := fullPairRow(1, [2]int{26 * first, 26 * second})
			r.did = did
			for _, a := range slices.Concat(movingActs(), settlingActs(second%2 == 0)) {
				r.does(t, a)
				if k := slices.IndexFunc(r.p.Nodes, func(n impl.Node) bool { return !n.Up }); k >= 0 {
					r.does(t, riseOf(int64(k)))
				}
			}
		}
	}
	for _, state := range threeStates {
		if what := fmt.Sprint("fell as it noted, of State ", state); did[what] < 5 {
			t.Errorf("%s %d times", what, did[what])
		}
	}
}

// movingActs move a pair of one block there and back.
func movingActs() []impl.Act {
	list := []impl.Act{}
	for node := range int64(2) {
		for _, kind := range []int64{impl.GoMove, impl.GoCopy, impl.GoHand} {
			list = append(list, tellOf(node, kind, 0), hearOf(0, 0), hearOf(0, 0))
		}
	}
	return list
}

// A mishap changes a row of acts at one place.
type mishap func(row []impl.Act, at int) []impl.Act

func comes(more ...impl.Act) mishap {
	return func(row []impl.Act, at int) []impl.Act { return slices.Insert(slices.Clone(row), at, more...) }
}

func tears(torn int64) mishap {
	return func(row []impl.Act, at int) []impl.Act {
		row = slices.Insert(slices.Clone(row), at+1, riseOf(0), riseOf(1))
		row[at].Torn = torn
		return row
	}
}

// staysDown lets a house rise only when two more acts were done, or not.
func staysDown(node int64) mishap {
	return func(row []impl.Act, at int) []impl.Act {
		row = slices.Insert(slices.Clone(row), min(at+2, len(row)), riseOf(node))
		return slices.Insert(row, at, fallOf(node, 0))
	}
}

func mishaps() []mishap {
	list := []mishap{
		comes(impl.Act{Kind: impl.AcLose}), comes(impl.Act{Kind: impl.AcTwice}), comes(hearOf(1, 0)),
		tears(1), tears(9), tears(1000),
		func(row []impl.Act, at int) []impl.Act { return slices.Delete(slices.Clone(row), at, at+1) },
	}
	for node := range int64(2) {
		list = append(list, staysDown(node), comes(fallOf(node, 255), riseOf(node)), comes(tellOf(node, impl.GoCancel, 0)), comes(tellOf(node, impl.GoCancel, 0), hearOf(0, 0)))
		for _, kind := range []int64{impl.GoMove, impl.GoAgain, impl.GoSend, impl.GoHand} {
			list = append(list, comes(tellOf(node, kind, 0)))
		}
	}
	return list
}

// settlingActs come behind: both rise, who hands over gives up, and what lies in the post is heard, the last one first or the first one.
func settlingActs(last bool) []impl.Act {
	list := []impl.Act{riseOf(0), riseOf(1), tellOf(0, impl.GoCancel, 0), tellOf(1, impl.GoCancel, 0)}
	for at := int64(4); at >= 0; at-- {
		if last {
			list = append(list, hearOf(at, 0))
		} else {
			list = append(list, hearOf(0, 0))
		}
	}
	return append(list, hearOf(0, 0), hearOf(0, 0))
}

func (r *pairRow) doAll(t *testing.T, acts []impl.Act) {
	t.Helper()
	for _, a := range acts {
		r.does(t, a)
	}
}

// Promise 17, with one mishap at each place of a move there and back, and with two of them near each other.
func TestOneOwnerWithMishapsAtEachPlace(t *testing.T) {
	t.Parallel()
	row, all := movingActs(), mishaps()
	did := map[string]int{}
	for at := range row {
		for k, first := range all {
			once := first(row, at)
			for _, last := range eachFlag {
				newPairRow(1, did).doAll(t, slices.Concat(once, settlingActs(last)))
			}
			for j, second := range all {
				then := at + 1 + (k+j)%4
				if then < len(once) {
					newPairRow(1, did).doAll(t, slices.Concat(second(once, then), settlingActs((at+k+j)%2 == 0)))
				}
			}
		}
	}
	for _, what := range []string{"from 1 to 2", "from 2 to 3", "from 3 to 1", "from 2 to 1", "fell as it noted, of State 1", "fell as it noted, of State 2", "fell as it noted, of State 3"} {
		if did[what] < 100 {
			t.Errorf("%s %d times", what, did[what])
		}
	}
}

// placeOf tells all of a pair that has a say in who owns it. The order of the letters has none, as any one may be heard.
func placeOf(p impl.Pair) string {
	key := []byte{}
	add := func(numbers ...int64) {
		for _, n := range numbers {
			key = strconv.AppendInt(append(key, ' '), n, 10)
		}
	}
	for _, n := range p.Nodes {
		r, c := n.Record, n.Copier
		add(r.Epoch, r.State, r.Tried, r.Seen, c.Try, c.Dirty, c.Waits, n.Sink.Try)
		add(append(slices.Clone(c.Turns), n.Sink.Turns...)...)
		key = strconv.AppendBool(strconv.AppendBool(key, n.Up), c.Open)
	}
	letters := []string{}
	for _, m := range p.Post {
		letters = append(letters, fmt.Sprint(m.To, m.Kind, m.Try, m.At, m.Turn, m.Epoch, len(m.Holding.Keys)))
	}
	slices.Sort(letters)
	return string(key) + strings.Join(letters, ",")
}

// actsOf are all acts that may change who owns it, or the way there: each kind told and each letter heard, torn, too, where something is noted.
func actsOf(p impl.Pair) []impl.Act {
	list := []impl.Act{}
	for node, n := range p.Nodes {
		id := int64(node)
		if !n.Up {
			list = append(list, riseOf(id))
			continue
		}
		list = append(list, fallOf(id, 0), tellOf(id, impl.GoMove, 1), tellOf(id, impl.GoHand, 1))
		for kind := int64(1); kind <= 6; kind++ {
			list = append(list, tellOf(id, kind, 0))
		}
	}
	for k, m := range p.Post {
		at := int64(k)
		list = append(list, hearOf(at, 0), impl.Act{Kind: impl.AcLose, N: at}, impl.Act{Kind: impl.AcTwice, N: at})
		if m.Kind != impl.MsReady && m.Kind != impl.MsCopy && m.Kind != impl.MsCopied {
			list = append(list, hearOf(at, 1))
		}
	}
	return list
}

// isNear keeps what is gone through finite: two letters on the way, two tries of a house, three Epochs, and each block copied once a try.
func isNear(p impl.Pair) bool {
	for _, n := range p.Nodes {
		if n.Record.Tried > 2 || n.Record.Epoch > 3 || slices.ContainsFunc(n.Copier.Turns, func(turn int64) bool { return turn > 1 }) {
			return false
		}
	}
	return len(p.Post) <= 2
}

// Promise 17, in each place that a new pair of one block comes to by any row of acts, however long, as far as isNear goes.
func TestOneOwnerInEachPlace(t *testing.T) {
	t.Parallel()
	p, _ := impl.NewPair(1)
	seen := map[string]bool{placeOf(p): true}
	states := map[[2]int64]int{}
	for todo := []impl.Pair{p}; len(todo) > 0; {
		p, todo = todo[len(todo)-1], todo[:len(todo)-1]
		states[[2]int64{p.Nodes[0].Record.State, p.Nodes[1].Record.State}]++
		for _, a := range actsOf(p) {
			after, _, done := impl.Happen(p, a)
			if !done || !isNear(after) {
				continue
			}
			place := placeOf(after)
			if seen[place] {
				continue
			}
			seen[place] = true
			if owners := impl.Owners(after); owners != 0 && owners != 1 {
				t.Fatalf("%d own it after %+v: from\n%s\nto\n%s", owners, a, showPair(p), showPair(after))
			}
			// Neither the Events nor a Log that was noted long ago have a say, and they would run full.
			after.Events = nil
			for k := range after.Nodes {
				after.Nodes[k].Log = framedByHand(showRecordByHand(after.Nodes[k].Record))
			}
			todo = append(todo, after)
		}
	}
	for _, pair := range [][2]int64{{1, 3}, {2, 3}, {2, 1}, {3, 1}, {3, 2}, {1, 2}} {
		if states[pair] < 100 {
			t.Errorf("States %v in %d of %d places", pair, states[pair], len(seen))
		}
	}
}

// listsOfPair are all lists of numbers of one answer that hold something.
func listsOfPair(p impl.Pair) [][]int64 {
	lists := keysOfAnswer(p.Post, impl.Msg{})
	for _, n := range p.Nodes {
		for _, list := range listsOfNode(n, nil) {
			if len(list) > 0 {
				lists = append(lists, list)
			}
		}
	}
	return lists
}

// spoilPair writes over all the memory of an answer, its spare room too.
func spoilPair(p impl.Pair) {
	for _, n := range p.Nodes {
		spoilNode(n)
	}
	spoilPost(p.Post)
	nodes, events := p.Nodes[:cap(p.Nodes)], p.Events[:cap(p.Events)]
	for k := range nodes {
		nodes[k] = impl.Node{Id: -77, Log: "spoilt"}
	}
	for k := range events {
		events[k] = impl.Event{Kind: -77, Bytes: "spoilt"}
	}
}

// pairsToLeaveAlone are those to which something happens, those that stay as they are, and those that are none.
func pairsToLeaveAlone() []impl.Pair {
	post := letterPost()
	owner, other := houseOf(0, impl.StOwner, "clean"), withSink(houseOf(1, impl.StOther, "none"), sinkOf(6, 1, 7, 2))
	list := []impl.Pair{
		{},
		withEvents(withPost(pairOf(owner, other), post), eventsOf(5)),
		withEvents(withPost(pairOf(houseOf(0, impl.StOwner, "dirty"), other), post[:20]), eventsOf(300)),
		withEvents(withPost(pairOf(houseOf(0, impl.StHanding, "clean"), other), post[8:30]), eventsOf(298)),
		withEvents(withPost(pairOf(houseOf(0, impl.StOwner, "none"), fallenByHand(other, 0)), post[30:]), eventsOf(3)),
		pairOf(fallenByHand(owner, 0), other),
	}
	fresh, _ := impl.NewPair(8)
	list = append(list, fresh, withEvents(fresh, eventsOf(301)), withPost(fresh, postOf(41, 0)), withPost(fresh, oneMsg(impl.Msg{Kind: 9, Holding: held(1, 1, 1, 1, 1, 1, 1)})))
	return append(list, impl.Pair{Nodes: []impl.Node{owner}, Post: post[:3], Events: eventsOf(2)}, impl.Pair{Nodes: []impl.Node{other, owner}}, impl.Pair{Nodes: []impl.Node{owner, other, owner}})
}

func actsToLeaveAlone() []impl.Act {
	list := []impl.Act{}
	for _, a := range pairActs() {
		if a.Node != -1 && (a.Kind != impl.AcHear || a.N%3 == 0 || a.N == 40) {
			list = append(list, a)
		}
	}
	return list
}

// roomyPair is a copy with something in the spare room behind each of its lists.
type roomyPair struct {
	given  impl.Pair
	nodes  []impl.Node
	post   []impl.Msg
	events []impl.Event
}

const spareRoom = 4

// roomyList has the same numbers, and others behind them.
func roomyList(list []int64) []int64 {
	return append(slices.Clone(list), ramp(spareRoom, 7000)...)[:len(list)]
}

func roomyPairOf(p impl.Pair) roomyPair {
	r := roomyPair{events: append(slices.Clone(p.Events), eventsOf(spareRoom)...)}
	for _, n := range append(slices.Clone(p.Nodes), houseOf(0, impl.StOwner, "dirty"), houseOf(1, impl.StOther, "none")) {
		lists := listsOfNode(n, nil)
		for k := range lists {
			lists[k] = roomyList(lists[k])
		}
		r.nodes = append(r.nodes, withLists(n, lists))
	}
	r.given.Nodes, r.given.Events = r.nodes[:len(p.Nodes)], r.events[:len(p.Events)]
	r.given.Post, r.post = roomy(p.Post)
	return r
}

func (r roomyPair) wantLeft(t *testing.T, what string, p impl.Pair) {
	t.Helper()
	want := roomyPairOf(p)
	whole := impl.Pair{Nodes: r.nodes, Post: r.post, Events: r.events}
	if !samePair(whole, impl.Pair{Nodes: want.nodes, Post: want.post, Events: want.events}) {
		t.Fatalf("%s: what was given, with what lies behind it, is\n%s now", what, showPair(whole))
	}
	for _, list := range listsOfPair(whole) {
		if !slices.Equal(list[len(list):len(list)+spareRoom], ramp(spareRoom, 7000)) {
			t.Fatalf("%s: behind %v lies %v now", what, list, list[:len(list)+spareRoom])
		}
	}
}

// Promise 21: nothing is written into an argument or behind it, and none of it is handed out.
func TestPairLeavesItsArgument(t *testing.T) {
	for _, p := range pairsToLeaveAlone() {
		r := roomyPairOf(p)
		impl.PairOk(r.given)
		impl.Owners(r.given)
		r.wantLeft(t, "PairOk and Owners", p)
		for _, a := range actsToLeaveAlone() {
			r := roomyPairOf(p)
			got, _, _ := impl.Happen(r.given, a)
			r.wantLeft(t, fmt.Sprintf("%+v", a), p)
			spoilPair(got)
			r.wantLeft(t, fmt.Sprintf("%+v, written over", a), p)
		}
	}
}

// The texts that are answered are their own, too, also where it stays as it is.
func TestTextsOfAPairAreNewMemory(t *testing.T) {
	for _, p := range pairsToLeaveAlone() {
		texts := []string{}
		for _, n := range p.Nodes {
			texts = append(texts, n.Log)
		}
		for _, e := range p.Events {
			texts = append(texts, e.Bytes, e.Answer.Text)
		}
		for k, a := range actsToLeaveAlone() {
			if k%5 > 0 && a.Kind != impl.AcAsk {
				continue
			}
			a.Bytes = strings.Clone(a.Bytes)
			got, answer, _ := impl.Happen(p, a)
			old := append(slices.Clone(texts), a.Bytes)
			for _, n := range got.Nodes {
				wantOwnText(t, a, n.Log, old)
			}
			for _, e := range got.Events {
				wantOwnText(t, a, e.Bytes, old)
				wantOwnText(t, a, e.Answer.Text, old)
			}
			wantOwnText(t, a, answer.Text, old)
			for _, e := range got.Events {
				wantOwnText(t, a, answer.Text, []string{e.Answer.Text})
			}
		}
	}
}

// wantOwnText passes over one byte: such a text is never made new.
func wantOwnText(t *testing.T, a impl.Act, text string, old []string) {
	t.Helper()
	for _, one := range old {
		if len(text) > 1 && sharesMemory(text, one) {
			t.Fatalf("%+v: %.40q shares the memory of what was given", a, text)
		}
	}
}

// An answer that was written over does not come back with the next one.
func TestPairAnswersAreNewMemory(t *testing.T) {
	for _, p := range pairsToLeaveAlone() {
		for _, a := range actsToLeaveAlone() {
			first, answer, done := impl.Happen(p, a)
			want := clonePair(first)
			second, _, _ := impl.Happen(p, a)
			spoilPair(first)
			third, again, is := impl.Happen(p, a)
			if !samePair(second, want) || !samePair(third, want) || again != answer || is != done {
				t.Fatalf("%+v: an answer is changed as another one is written over", a)
			}
		}
	}
}

// sharingPair is one in which all lists that may be alike are one: the blocks, the Keys, those of the letters, too.
func sharingPair(state int64) impl.Pair {
	whole := []int64{11, 22, 33, 44}
	h := impl.Holding{Keys: whole, Kind: impl.KiAll, Holder: 1, Turn: 8}
	p := impl.Pair{Events: eventsOf(3)}
	for id := range int64(2) {
		n := nodeOf(id, 4, impl.Record{Epoch: 4, State: state, Tried: 6, Seen: 6})
		n.Disk, n.Holding = diskOf(whole, whole), h
		if state == impl.StOther {
			n.Sink = sinkOf(6, whole...)
		} else {
			n.Copier = copierOf(6, true, 0, 0, whole...)
		}
		p.Nodes = append(p.Nodes, n)
	}
	for k := range 12 {
		p.Post = append(p.Post, impl.Msg{To: int64(k % 2), Kind: 1 + int64(k%8), Try: 6, Epoch: 4, Turn: 50, Holding: h})
	}
	return p
}

// No two lists of one answer share any, also where all that were given do.
func TestListsOfAPairAreApart(t *testing.T) {
	pairs := pairsToLeaveAlone()
	for _, state := range threeStates {
		pairs = append(pairs, sharingPair(state))
	}
	for _, p := range pairs {
		before := clonePair(p)
		for _, a := range actsToLeaveAlone() {
			got, _, _ := impl.Happen(p, a)
			wantApart(t, fmt.Sprintf("%+v", a), listsOfPair(got))
			got, _, _ = impl.Happen(p, a)
			lists := listsOfPair(got)
			slices.Reverse(lists)
			wantApart(t, fmt.Sprintf("%+v, the last one first", a), lists)
			wantHappenByHand(t, p, a)
		}
		if !samePair(p, before) {
			t.Fatalf("what was given is\n%s now", showPair(p))
		}
	}
}

// Promise 21: each answers at every argument, with numbers from one end of their range to the other.
func TestPairAnswersAtEveryArgument(t *testing.T) {
	ends := []int64{math.MinInt64, math.MinInt64 + 1, -1 << 32, -1, 0, 1, 2, 3, 4, 6, 7, 8, 39, 40, 255, 256, 300, 40000, 1 << 32, math.MaxInt64 - 1, math.MaxInt64}
	pairs := []impl.Pair{
		{},
		withPost(pairOf(houseOf(0, impl.StOwner, "clean"), withSink(houseOf(1, impl.StOther, "none"), sinkOf(6, 1, 7, 2))), letterPost()),
		withPost(pairOf(fallenByHand(houseOf(0, impl.StHanding, "none"), 0), houseOf(1, impl.StOwner, "none")), letterPost()[:9]),
	}
	for _, p := range pairs {
		for _, a := range ends {
			for _, b := range ends {
				wantHappenByHand(t, p, impl.Act{Kind: a, Node: b})
				wantHappenByHand(t, p, impl.Act{Kind: a, N: b, Who: 1, Bytes: bytesOf(readOf(0))})
				wantHappenByHand(t, p, impl.Act{Kind: a, Node: 1, N: 1, Torn: b})
				for kind := int64(1); kind <= 7; kind++ {
					wantHappenByHand(t, p, impl.Act{Kind: kind, Node: a, N: b, Who: a, Torn: b})
				}
			}
		}
	}
	for _, a := range ends {
		for _, b := range ends {
			p := editedPair(pairs[1], func(p *impl.Pair) { p.Nodes[0].Id, p.Nodes[1].Id = a, b })
			e := editedPair(pairs[1], func(p *impl.Pair) {
				p.Events = []impl.Event{{Kind: a, Who: b}, {Kind: 2, Set: a}, {Kind: 1, Who: 1, Answer: impl.Answer{Status: b}}}
			})
			for _, one := range []impl.Pair{p, e} {
				if impl.PairOk(one) != pairOkByHand(one) {
					t.Errorf("PairOk of\n%s\n= %v", showPair(one), impl.PairOk(one))
				}
				wantHappenByHand(t, one, tellOf(0, impl.GoHand, 0))
			}
		}
		if p, made := impl.NewPair(a); made != between(a, 1, 8) || made == noPair(p) {
			t.Errorf("NewPair(%d) =\n%s, %v", a, showPair(p), made)
		}
	}
	long := editedPair(pairs[1], func(p *impl.Pair) { p.Nodes = slices.Repeat(p.Nodes, 500); p.Events = eventsOf(9000) })
	wantNoPair(t, "far too much", long)
	wantPairStays(t, pairs[1], askOf(0, 1, strings.Repeat("x", 1<<20)))
}
