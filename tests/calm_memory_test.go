package tests

import (
	"math"
	"slices"
	"strings"
	"testing"

	"loop.example/g00354/impl"
)

// A calmCall is one of the two that answer a pair, with what they are to answer.
type calmCall struct {
	name   string
	call   func(impl.Pair) impl.Pair
	byHand func(impl.Pair) impl.Pair
}

func calmCalls() []calmCall {
	return []calmCall{{"Calm", impl.Calm, calmByHand}, {"Moved", impl.Moved, movedByHand}}
}

// pairsToCalm are those that are in calm, those that come to it, and those that are none.
func pairsToCalm(t *testing.T) []impl.Pair {
	pairs := pairsToLeaveAlone()
	for _, one := range toldPairs(t) {
		pairs = append(pairs, one.p)
	}
	for _, row := range handingRows()[:7] {
		pairs = append(pairs, atEither(0, stateNode(impl.StHanding, "clean"), row.other))
	}
	calm := impl.Calm(pairs[len(pairs)-1])
	return append(pairs, calm, impl.Moved(calm), atEither(1, stateNode(impl.StOwner, "waits"), otherOf(recordOf(4, 3, 6, 6), true)), atEither(1, stateNode(impl.StOther, "none"), otherOf(recordOf(4, 3, 6, 6), true)))
}

// sharingPairs have lists that are one, in houses of each two States.
func sharingPairs() []impl.Pair {
	list := []impl.Pair{}
	for _, first := range threeStates {
		for _, second := range threeStates {
			p, other := sharingPair(first), sharingPair(second)
			p.Nodes[1] = other.Nodes[1]
			list = append(list, p)
		}
	}
	return list
}

// Promise 21: nothing is written into an argument or behind it, none of it is handed out, and what was answered does not come back.
func TestCalmAndMovedLeaveTheirArgument(t *testing.T) {
	for _, p := range append(pairsToCalm(t), sharingPairs()...) {
		for _, one := range calmCalls() {
			r, want := roomyPairOf(p), one.byHand(p)
			got := one.call(r.given)
			r.wantLeft(t, one.name, p)
			if !samePair(got, want) {
				t.Fatalf("%s of\n%s\n=\n%s", one.name, showPair(p), showPair(got))
			}
			spoilPair(got)
			r.wantLeft(t, one.name+", written over", p)
			if again := one.call(r.given); !samePair(again, want) {
				t.Fatalf("%s of\n%s\n=\n%s behind an answer that was written over", one.name, showPair(p), showPair(again))
			}
		}
		r := roomyPairOf(p)
		wantOwnerOf(t, "left as it was", r.given, ownerByHand(p))
		r.wantLeft(t, "OwnerOf", p)
	}
}

// No two lists of one answer share any, also where all that were given do.
func TestListsOfCalmAndMovedAreApart(t *testing.T) {
	for _, p := range append(pairsToCalm(t), sharingPairs()...) {
		before := clonePair(p)
		for _, one := range calmCalls() {
			wantApart(t, one.name, listsOfPair(one.call(p)))
			lists := listsOfPair(one.call(p))
			slices.Reverse(lists)
			wantApart(t, one.name+", the last one first", lists)
		}
		if !samePair(p, before) {
			t.Fatalf("what was given is\n%s now", showPair(p))
		}
	}
}

func textsOfPair(p impl.Pair) []string {
	texts := []string{}
	for _, n := range p.Nodes {
		texts = append(texts, n.Log)
	}
	for _, e := range p.Events {
		texts = append(texts, e.Bytes, e.Answer.Text)
	}
	return texts
}

// The texts that are answered are their own, too.
func TestTextsOfCalmAndMovedAreNewMemory(t *testing.T) {
	for _, p := range pairsToCalm(t) {
		old := textsOfPair(p)
		for _, one := range calmCalls() {
			for _, text := range textsOfPair(one.call(p)) {
				wantOwnText(t, impl.Act{}, text, old)
			}
		}
	}
}

// Promise 21: each answers at every argument, with numbers from one end of their range to the other.
func TestCalmAndMovedAnswerAtEveryArgument(t *testing.T) {
	ends := []int64{math.MinInt64, math.MinInt64 + 1, -1 << 32, -1, 0, 1, 2, 3, 6, 7, 8, 255, 256, 99999, 100000, 100001, 1000000000, 1 << 32, math.MaxInt64 - 1, math.MaxInt64}
	right := atEither(0, stateNode(impl.StHanding, "clean"), otherOf(recordOf(4, 3, 6, 5), true))
	for _, a := range ends {
		for _, b := range ends {
			for _, edit := range []func(p *impl.Pair){
				func(p *impl.Pair) { p.Nodes[0].Id, p.Nodes[1].Id = a, b },
				func(p *impl.Pair) { p.Nodes[0].Record.Epoch, p.Nodes[0].Record.Tried = a, b },
				func(p *impl.Pair) { p.Nodes[1].Record.State, p.Nodes[1].Record.Seen = a, b },
				func(p *impl.Pair) { p.Nodes[0] = notedNode(p.Nodes[0], recordOf(a, 2, 6, b)) },
				func(p *impl.Pair) {
					p.Nodes[0] = notedNode(withCopier(p.Nodes[0], impl.Copier{}), recordOf(a, 1, b, 6))
					p.Nodes[1] = notedNode(withSink(p.Nodes[1], impl.Sink{}), recordOf(b, 3, 6, a))
				},
				func(p *impl.Pair) { p.Nodes[0].Copier.Try, p.Nodes[0].Copier.Dirty = a, b },
				func(p *impl.Pair) { p.Nodes[0].Copier.Turns[0], p.Nodes[1].Sink.Turns[1] = a, b },
				func(p *impl.Pair) { p.Nodes[0].Disk.Now[0], p.Nodes[1].Disk.Kept[1] = a, b },
				func(p *impl.Pair) { p.Nodes[0].Holding.Turn, p.Nodes[0].Holding.Keys[2] = a, b },
				func(p *impl.Pair) { p.Post = oneMsg(impl.Msg{To: a, Kind: b}) },
				func(p *impl.Pair) { p.Events = []impl.Event{{Kind: a, Who: b}, {Kind: 2, Set: a}} },
			} {
				wantCalmByHand(t, "at the ends", editedPair(right, edit))
			}
		}
	}
	for _, n := range []int{0, 1, 3, 500} {
		wantNoPair(t, "so many houses", editedPair(right, func(p *impl.Pair) { p.Nodes = slices.Repeat(p.Nodes, n)[:max(0, 2*n-1)] }))
		wantNoPair(t, "so many Msgs", withPost(right, postOf(41+n, 0)))
		wantNoPair(t, "so many Events", withEvents(right, eventsOf(301+n)))
	}
	wantNoPair(t, "a long Log", editedPair(right, func(p *impl.Pair) { p.Nodes[0].Log = strings.Repeat("x", 1<<20) + p.Nodes[0].Log }))
}
