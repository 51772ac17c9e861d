package tests

import (
	"fmt"
	"math/rand"
	"slices"
	"testing"

	"loop.example/g00354/impl"
)

// wantCalmOne wants promise 19 of Calm: just one owns, nobody hands over, both are up, nothing is on the way, and nothing was told of it.
func wantCalmOne(p, calm impl.Pair) string {
	owner := impl.OwnerOf(calm)
	switch {
	case !impl.PairOk(calm) || !impl.Agreed(calm):
		return "Calm is not Agreed"
	case owner != 0 && owner != 1 || impl.Owners(calm) != 1:
		return "not one owns in calm"
	case calm.Nodes[owner].Record.State != impl.StOwner || calm.Nodes[1-owner].Record.State != impl.StOther:
		return "one does not own in calm, and is not the other one"
	case !calm.Nodes[0].Up || !calm.Nodes[1].Up || len(calm.Post) > 0:
		return "it is not in calm"
	case !slices.Equal(calm.Events, p.Events):
		return "Events of Calm"
	case !sameStore(storeOfNode(calm.Nodes[owner]), impl.Owned(p)):
		return "another store in calm"
	case !samePair(impl.Calm(calm), calm):
		return "Calm of Calm is another one"
	}
	return ""
}

// wantMovedOne wants promise 19 of Moved: the other one owns, the same is there, which is kept, and nothing is left of the try.
func wantMovedOne(calm, moved impl.Pair) string {
	before := impl.OwnerOf(calm)
	owner := 1 - before
	kept := storeOfNode(calm.Nodes[before])
	kept.Disk = flushedByHand(kept.Disk)
	switch {
	case !impl.PairOk(moved) || !impl.Agreed(moved):
		return "Moved is not Agreed"
	case impl.OwnerOf(moved) != owner || impl.Owners(moved) != 1 || moved.Nodes[before].Record.State != impl.StOther:
		return "the other one does not own it"
	case !impl.Alike(storeOfNode(moved.Nodes[owner]), kept) || !sameStore(storeOfNode(moved.Nodes[before]), kept):
		return "what was moved is not the same"
	case !moved.Nodes[0].Up || !moved.Nodes[1].Up || len(moved.Post) > 0:
		return "what was moved is not in calm"
	case !slices.Equal(moved.Events, append(slices.Clone(calm.Events), keepEvent)):
		return "Events of Moved"
	}
	for k, n := range moved.Nodes {
		if !sameCopier(n.Copier, impl.Copier{}) || !sameSink(n.Sink, impl.Sink{}) {
			return fmt.Sprint("something is left of the try in ", k)
		}
		if n.Record.Epoch != calm.Nodes[before].Record.Epoch+1 {
			return fmt.Sprint("another Epoch of ", k)
		}
	}
	return ""
}

// wantInCalm wants promise 19 of a pair that came about from a new one.
func wantInCalm(t *testing.T, what string, p impl.Pair) (calm, moved impl.Pair) {
	t.Helper()
	before := clonePair(p)
	calm, moved = impl.Calm(p), impl.Moved(p)
	wrong := wantCalmOne(p, calm)
	if wrong == "" {
		wrong = wantMovedOne(calm, moved)
	}
	if wrong == "" && !samePair(impl.Moved(calm), moved) {
		wrong = "Moved of Calm is another one"
	}
	if wrong == "" && !samePair(p, before) {
		wrong = "what was given is another one now"
	}
	if wrong != "" {
		t.Fatalf("%s, %s: of\n%s\nCalm is\n%s\nMoved\n%s", what, wrong, showPair(before), showPair(calm), showPair(moved))
	}
	return calm, moved
}

// wantBack wants what is moved twice to be owned by the first one again, with the same.
func wantBack(t *testing.T, what string, calm, moved impl.Pair) {
	t.Helper()
	back := impl.Moved(moved)
	if wrong := wantMovedOne(moved, back); wrong != "" || impl.OwnerOf(back) != impl.OwnerOf(calm) {
		t.Fatalf("%s, moved back: %s, of\n%s\nto\n%s", what, wrong, showPair(moved), showPair(back))
	}
}

// looksInCalm wants it of where the row is now, and counts what was there.
func (r *historyRow) looksInCalm(t *testing.T) {
	t.Helper()
	what := fmt.Sprintf("behind %d acts %+v", len(r.acts), r.acts[max(0, len(r.acts)-20):])
	calm, moved := wantInCalm(t, what, r.p)
	if len(r.acts)%3 == 0 {
		wantBack(t, what, calm, moved)
	}
	r.countCalm(impl.OwnerOf(calm))
}

func (r *historyRow) countCalm(owner int64) {
	for k, n := range r.p.Nodes {
		if n.Record.State == impl.StHanding {
			r.did[fmt.Sprintf("handed over by %d, in calm of %d", k, owner)]++
		}
		if c := n.Copier; c.Try > 0 && c.Open && c.Dirty > 0 && slices.Max(c.Turns) > 0 {
			r.did["half copied"]++
		}
		if n.Record.State == impl.StOwner && n.Copier.Try > 0 {
			r.did[fmt.Sprint("copied by ", k)]++
		}
		if !n.Up {
			r.did[fmt.Sprint("down was ", k)]++
		}
	}
	if !r.p.Nodes[0].Up && !r.p.Nodes[1].Up {
		r.did["down were both"]++
	}
	for _, m := range r.p.Post {
		r.did[fmt.Sprint("on the way ", m.Kind)]++
	}
	r.did[fmt.Sprint("in calm of ", owner)]++
}

// goesOnFrom takes what became of the pair for the pair, with what was told of that.
func (r *historyRow) goesOnFrom(p impl.Pair) {
	for _, e := range p.Events[len(r.p.Events):] {
		r.s, _ = heardByStore(r.s, e)
	}
	r.p = p
}

// Promise 19, over rows of 100 acts, and shorter ones, of all that can happen to a new pair; some of them come to calm, or are moved, on the way.
func TestInCalmOneOwns(t *testing.T) {
	for blocks := int64(1); blocks <= 8; blocks++ {
		t.Run(fmt.Sprint(blocks), func(t *testing.T) {
			t.Parallel()
			source, did := rand.New(rand.NewSource(60+blocks)), map[string]int{}
			for row := range 60 {
				r, m := newHistoryRow(blocks, did), thrownHistoryMood(source)
				for k := range []int{100, 100, 60, 20}[row%4] {
					r.does(t, r.thrownAct(source, m))
					switch {
					case row%5 == 0 && k%25 == 20:
						r.goesOnFrom(impl.Calm(r.p))
					case row%5 == 1 && k%25 == 20:
						r.goesOnFrom(impl.Moved(r.p))
					}
					if k%7 == row%7 {
						r.looksInCalm(t)
					}
				}
				r.looksInCalm(t)
			}
			for kind := 1; kind <= 7; kind++ {
				wantEach(t, did, 1, fmt.Sprintf("kind %d: true", kind), fmt.Sprintf("kind %d: false", kind))
			}
			wantEach(t, did, 3, slices.Concat(numberedFrom("Op ", 1, 12), numberedFrom("Status ", 0, 4))...)
			wantEach(t, did, 1, slices.Concat(numberedFrom("fell, of State ", 1, 3), numberedFrom("on the way ", 1, 7))...)
			wantEach(t, did, 1, "handed over by 0, in calm of 0", "handed over by 0, in calm of 1", "down were both", "copied by 0", "copied by 1")
			wantEach(t, did, 10, slices.Concat(numberedFrom("in calm of ", 0, 1), numberedFrom("down was ", 0, 1))...)
			if blocks > 1 {
				wantEach(t, did, 1, "half copied")
			}
		})
	}
}

// Promise 19, with one mishap or command at each place of a move there and back: at that place, and at those behind it.
func TestInCalmWithMishapsAtEachPlace(t *testing.T) {
	row := thereAndBack()
	for at := range row {
		t.Run(fmt.Sprint(at), func(t *testing.T) {
			t.Parallel()
			did := map[string]int{}
			for k, comes := range slices.Concat(mishaps(), askMishaps()) {
				r := newHistoryRow(1, did)
				for j, a := range comes(row, at) {
					r.does(t, a)
					if j >= at && (j < at+4 || j%4 == k%4) {
						r.looksInCalm(t)
					}
				}
			}
			if wantEach(t, did, 1, "in calm of 0"); at < len(row)/2 {
				wantEach(t, did, 1, "in calm of 1")
			}
		})
	}
}

// The same rows, and pairs of any kind, as told by hand.
func TestCalmAndMovedThrown(t *testing.T) {
	t.Parallel()
	source := rand.New(rand.NewSource(70))
	for range 60 {
		r, m := newHistoryRow(1+source.Int63n(8), map[string]int{}), thrownHistoryMood(source)
		for k := range 100 {
			if r.p, _, _ = impl.Happen(r.p, r.thrownAct(source, m)); k%10 == 9 {
				wantCalmByHand(t, "thrown", r.p)
			}
		}
	}
	right, wrong, did := 0, 0, map[string]int{}
	for range 3000 {
		p := thrownPair(source)
		wantCalmByHand(t, "thrown", p)
		if !pairOkByHand(p) {
			wrong++
			continue
		}
		right++
		moved := impl.Moved(p)
		did[fmt.Sprint("was owned by ", impl.OwnerOf(p))]++
		did[fmt.Sprint("moved, owned by ", impl.OwnerOf(moved))]++
		if impl.OwnerOf(p) >= 0 && impl.OwnerOf(moved) == 1-impl.OwnerOf(p) {
			did["moved over"]++
		}
	}
	if min(right, wrong) < 300 {
		t.Errorf("%d right, %d wrong of what was thrown", right, wrong)
	}
	wantEach(t, did, 50, slices.Concat(numberedFrom("was owned by ", -1, 1), numberedFrom("moved, owned by ", -1, 1), []string{"moved over"})...)
}

// Calm of what is in calm is the same, and Moved of Calm is Moved, also of pairs that no row comes to, where nothing falls on the way.
func TestCalmOfCalm(t *testing.T) {
	pairs := []impl.Pair{}
	for _, one := range toldPairs(t) {
		pairs = append(pairs, one.p)
	}
	for _, row := range handingRows() {
		pairs = append(pairs, atEither(0, stateNode(impl.StHanding, "clean"), row.other), atEither(1, stateNode(impl.StHanding, "none"), row.other))
	}
	for _, shape := range copierShapes {
		pairs = append(pairs, atEither(0, stateNode(impl.StOwner, shape), otherOf(recordOf(4, 3, 6, 6), true)), atEither(1, fallenByHand(stateNode(impl.StOwner, shape), 0), otherOf(recordOf(4, 3, 6, 7), true)))
	}
	for _, p := range pairs {
		calm := impl.Calm(p)
		if again := impl.Calm(calm); !samePair(again, calm) {
			t.Errorf("Calm of\n%s\n=\n%s\nand of that\n%s", showPair(p), showPair(calm), showPair(again))
		}
		if moved, again := impl.Moved(p), impl.Moved(calm); !samePair(again, moved) {
			t.Errorf("Moved of\n%s\n=\n%s\nand of Calm of it\n%s", showPair(p), showPair(moved), showPair(again))
		}
		if moved := impl.Moved(p); impl.OwnerOf(calm) == -1 && !samePair(moved, calm) {
			t.Errorf("Moved of\n%s\n=\n%s", showPair(p), showPair(moved))
		}
	}
}

// What was told and moved is Agreed: the pairs that were written out in chapter 18.
func TestInCalmOfToldPairs(t *testing.T) {
	for _, one := range toldPairs(t) {
		calm, moved := wantInCalm(t, one.what, one.p)
		wantBack(t, one.what, calm, moved)
		if one.what != "taken" && impl.OwnerOf(calm) != int64(one.at) {
			t.Errorf("%s: in calm it is owned by %d", one.what, impl.OwnerOf(calm))
		}
	}
}
