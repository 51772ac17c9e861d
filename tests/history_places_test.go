package tests

import (
	"fmt"
	"runtime"
	"slices"
	"sync"
	"testing"

	"loop.example/g00354/impl"
)

// storePlaceOf tells all of a pair of one block that has a say in what store there is: placeOf, and the values in the houses and on the way. There are two values, and it is the same place where each of them is the other one.
func storePlaceOf(p impl.Pair) string {
	s, _ := keeperByHand(p)
	turned := s.Disk.Now[0]
	values := []int64{}
	for _, n := range p.Nodes {
		values = append(values, n.Disk.Kept[0]^turned, n.Disk.Now[0]^turned)
	}
	letters := []string{}
	for _, m := range p.Post {
		value := m.Value
		if m.Kind == impl.MsCopy {
			value ^= turned
		}
		letters = append(letters, fmt.Sprint(m.To, m.Kind, m.Try, m.Turn, m.Epoch, value))
	}
	slices.Sort(letters)
	return placeOf(p) + fmt.Sprint(values, letters)
}

// isNearAsAStore keeps what is gone through finite: two letters on the way, two tries in all, three Epochs, and each block copied twice a try.
func isNearAsAStore(p impl.Pair) bool {
	tries := int64(0)
	for _, n := range p.Nodes {
		tries += n.Record.Tried
		if n.Record.Epoch > 3 || slices.ContainsFunc(n.Copier.Turns, func(turn int64) bool { return turn > 2 }) {
			return false
		}
	}
	return tries <= 2 && len(p.Post) <= 2
}

// usingActs write the other one of the two values, and keep it.
func usingActs(p impl.Pair) []impl.Act {
	list := []impl.Act{}
	for node, n := range p.Nodes {
		if n.Up && n.Record.State == impl.StOwner {
			list = append(list, askOf(int64(node), 1, bytesOf(writeOf(0, 1-n.Disk.Now[0]))), askOf(int64(node), 1, bytesOf(syncCmd)))
		}
	}
	return list
}

// shortened has three Events, of which the same store comes, and a Log of one record: what was noted and told long ago would run full.
func shortened(p impl.Pair) impl.Pair {
	s, _ := keeperByHand(p)
	p.Events = newHistory(1).asks(1, writeOf(0, s.Disk.Kept[0])).adds(keepEvent).asks(1, writeOf(0, s.Disk.Now[0])).list
	for k := range p.Nodes {
		p.Nodes[k].Log = framedByHand(showRecordByHand(p.Nodes[k].Record))
	}
	return p
}

// storePlaces are those that were come to, and those of them from which nothing was done yet.
type storePlaces struct {
	mutex  sync.Mutex
	seen   map[string]bool
	todo   []impl.Pair
	states map[[2]int64]int
}

func (s *storePlaces) comes(p impl.Pair) {
	place := storePlaceOf(p)
	s.mutex.Lock()
	defer s.mutex.Unlock()
	if !s.seen[place] {
		s.seen[place] = true
		s.todo = append(s.todo, shortened(p))
		s.states[[2]int64{p.Nodes[0].Record.State, p.Nodes[1].Record.State}]++
	}
}

// goesOn comes to calm from each of these pairs, and does all acts with it.
func (s *storePlaces) goesOn(t *testing.T, list []impl.Pair) {
	for _, p := range list {
		wantInCalmThere(t, p)
		for _, a := range slices.Concat(actsOf(p), usingActs(p)) {
			after, _, done := impl.Happen(p, a)
			if !done || !isNearAsAStore(after) {
				continue
			}
			if !impl.Agreed(after) {
				t.Errorf("it is not Agreed after %+v: from\n%s\nto\n%s", a, showPair(p), showPair(after))
			}
			if t.Failed() {
				return
			}
			s.comes(after)
		}
	}
}

// wantInCalmThere wants promise 19 of one place.
func wantInCalmThere(t *testing.T, p impl.Pair) {
	t.Helper()
	calm, moved := impl.Calm(p), impl.Moved(p)
	wrong := wantCalmOne(p, calm)
	if wrong == "" {
		wrong = wantMovedOne(calm, moved)
	}
	if wrong != "" {
		t.Errorf("%s: of\n%s\nCalm is\n%s\nMoved\n%s", wrong, showPair(p), showPair(calm), showPair(moved))
	}
}

// Promises 18 and 19, in each place that a new pair of one block, of which one of two values is written and kept, comes to by any row of acts, however long, as far as isNearAsAStore goes.
func TestAsIfThereWereOneHouseAndInCalmInEachPlace(t *testing.T) {
	t.Parallel()
	s := storePlaces{seen: map[string]bool{}, states: map[[2]int64]int{}}
	p, _ := impl.NewPair(1)
	for s.comes(p); len(s.todo) > 0 && !t.Failed(); {
		list, walkers := s.todo, sync.WaitGroup{}
		s.todo = nil
		for part := range slices.Chunk(list, len(list)/runtime.GOMAXPROCS(0)+1) {
			walkers.Go(func() { s.goesOn(t, part) })
		}
		walkers.Wait()
	}
	for _, pair := range [][2]int64{{1, 3}, {2, 3}, {2, 1}, {3, 1}, {3, 2}, {1, 2}} {
		if s.states[pair] < 1000 {
			t.Errorf("States %v in %d of %d places", pair, s.states[pair], len(s.seen))
		}
	}
}
