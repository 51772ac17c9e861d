package tests

import (
	"fmt"
	"math/rand"
	"slices"
	"testing"

	"loop.example/g00354/impl"
)

func storeOf(d impl.Disk, h impl.Holding) impl.Store { return impl.Store{Disk: d, Holding: h} }

func cloneStore(s impl.Store) impl.Store { return storeOf(cloneDisk(s.Disk), cloneHolding(s.Holding)) }

func sameStore(a, b impl.Store) bool {
	return sameDisk(a.Disk, b.Disk) && sameHolding(a.Holding, b.Holding)
}

func storeOkByHand(s impl.Store) bool { return diskOkByHand(s.Disk) && holdingOkByHand(s.Holding) }

// mayOfHolding asks the table of chapter 7 for one of the four.
func mayOfHolding(h impl.Holding, who int64, writes bool) bool {
	registered := h.Keys[who] > 0
	return mayOf(h.Kind, writes, registered && (who == h.Holder || h.Kind > 4), registered)
}

var deedNames = []string{"Register", "Reserve", "Release", "Clear", "Preempt"}

// deedOf is what a command from OpRegister to OpPreempt asks of chapter 9.
func deedOf(who int64, c impl.Cmd) deed {
	return deed{what: deedNames[c.Op-6], who: who, key: c.A, kind: c.Kind}
}

// storedByHand tells the chapter a second time, by the number of the Op.
func storedByHand(s impl.Store, who int64, c impl.Cmd) (impl.Store, impl.Answer) {
	if !storeOkByHand(s) {
		return impl.Store{}, impl.Answer{Status: 7}
	}
	s = cloneStore(s)
	switch {
	case who < 0 || who > 3 || !cmdOkByHand(c):
		return s, impl.Answer{Status: 7}
	case c.Op == 11:
		return s, impl.Answer{Text: keysOfByHand(s.Holding)}
	case c.Op == 12:
		return s, impl.Answer{Text: holderOfByHand(s.Holding)}
	case c.Op <= 5 && !mayOfHolding(s.Holding, who, c.Op > 1):
		return s, impl.Answer{Status: 3}
	case c.Op <= 5:
		d, a := didByHand(s.Disk, c)
		return storeOf(d, s.Holding), a
	}
	h, code := deedOf(who, c).byHand(s.Holding)
	if code != 0 {
		return s, impl.Answer{Status: []int64{1: 3, 2: 1}[code]}
	}
	return storeOf(s.Disk, h), impl.Answer{}
}

// wantStored holds the answer against the given one, and wants the argument as it was.
func wantStored(t *testing.T, s impl.Store, who int64, c impl.Cmd, want impl.Store, status int64, text string) {
	t.Helper()
	before := cloneStore(s)
	got, a := impl.DidStore(s, who, c)
	if !sameStore(got, want) || a.Status != status || a.Text != text {
		t.Errorf("DidStore(%v, %d, %v) = %v, %d %q, not %v, %d %q", before, who, c, got, a.Status, a.Text, want, status, text)
	}
	if !sameStore(s, before) {
		t.Errorf("DidStore(%v, %d, %v): it is %v now", before, who, c, s)
	}
}

func wantStoredByHand(t *testing.T, s impl.Store, who int64, c impl.Cmd) {
	t.Helper()
	want, a := storedByHand(s, who, c)
	wantStored(t, s, who, c, want, a.Status, a.Text)
}

// wantStays wants the same store and a Status that tells nothing more.
func wantStays(t *testing.T, s impl.Store, who int64, c impl.Cmd, status int64) {
	t.Helper()
	wantStored(t, s, who, c, s, status, "")
}

func registerOf(key int64) impl.Cmd { return impl.Cmd{Op: impl.OpRegister, A: key} }
func reserveOf(kind int64) impl.Cmd { return impl.Cmd{Op: impl.OpReserve, Kind: kind} }
func preemptOf(a, kind int64) impl.Cmd {
	return impl.Cmd{Op: impl.OpPreempt, A: a, B: 1, Kind: kind}
}

var (
	syncCmd    = impl.Cmd{Op: impl.OpSync}
	releaseCmd = impl.Cmd{Op: impl.OpRelease}
	clearCmd   = impl.Cmd{Op: impl.OpClear}
	keysCmd    = impl.Cmd{Op: impl.OpKeys}
	holderCmd  = impl.Cmd{Op: impl.OpHolder}
)

// blockCmds are right ones from OpRead to OpSync, of the disk 5 6 7 kept and 50 51 52 now: done, out of range, and of what is not there.
func blockCmds() []impl.Cmd {
	return []impl.Cmd{
		readOf(0), readOf(2), readOf(3), readOf(255),
		writeOf(0, 0), writeOf(2, 9999), writeOf(1, 51), writeOf(1, 10000), writeOf(3, 1), writeOf(255, 65535),
		swapOf(0, 50, 8), swapOf(2, 52, 52), swapOf(1, 7, 8), swapOf(1, 65535, 8), swapOf(1, 51, 10000), swapOf(3, 0, 1),
		unmapOf(0), unmapOf(2), unmapOf(3), syncCmd,
	}
}

// actionCmds are right ones from OpRegister to OpPreempt, with keys that somebody of eachHolding has, that nobody has, and 0.
func actionCmds() []impl.Cmd {
	list := []impl.Cmd{releaseCmd, clearCmd}
	for _, kind := range sixKinds {
		list = append(list, reserveOf(kind))
	}
	for _, key := range []int64{0, 1, 11, 22, 33, 44, 9999} {
		list = append(list, registerOf(key))
		for _, kind := range sixKinds {
			list = append(list, preemptOf(key, kind))
		}
	}
	return list
}

func tellCmds() []impl.Cmd { return []impl.Cmd{keysCmd, holderCmd} }

func allCmds() []impl.Cmd { return slices.Concat(blockCmds(), actionCmds(), tellCmds()) }

// eachStore goes through the disk of blockCmds with each way to hold it.
func eachStore(see func(s impl.Store)) {
	eachHolding(func(h impl.Holding, _ [4]bool, _ [4]bool) {
		h.Turn = 3
		see(storeOf(rampDisk(3), h))
	})
}

// brokenStores have one part, or both, that are not right.
func brokenStores() []impl.Store {
	list := []impl.Store{{}, storeOf(rampDisk(3), impl.Holding{}), storeOf(impl.Disk{}, impl.NewHolding())}
	for k, d := range notDisks() {
		list = append(list, storeOf(d, impl.NewHolding()), storeOf(d, held(6, -1, 3, 5, 0, 7, 0)), storeOf(d, held(2, 2, 3, 5, 0, 7, 0)))
		if k%7 == 0 {
			list = append(list, storeOf(d, held(2, 1, 3, 5, 0, 7, 0)))
		}
	}
	for k, b := range breaches() {
		if k%3 == 0 {
			list = append(list, storeOf(rampDisk(1+k%8), b.broken))
		}
	}
	return list
}

func noStore(s impl.Store) bool { return sameStore(s, impl.Store{}) }

// Promise 12, and who May is answered by the disk. Each that can hold it, each that can be registered, each of the four.
func TestNothingIsChangedByWhoMayNot(t *testing.T) {
	barred, let := map[int64]int{}, map[int64]int{}
	eachHolding(func(h impl.Holding, registered [4]bool, holds [4]bool) {
		for _, d := range []impl.Disk{rampDisk(3), diskOf(ramp(3, 50), ramp(3, 50))} {
			s := storeOf(d, h)
			for who := range int64(4) {
				for _, c := range blockCmds() {
					if !mayOf(h.Kind, c.Op != impl.OpRead, holds[who], registered[who]) {
						barred[c.Op]++
						wantStays(t, s, who, c, impl.SaConflict)
						continue
					}
					let[c.Op]++
					did, a := impl.DidDisk(d, c)
					wantStored(t, s, who, c, storeOf(did, h), a.Status, a.Text)
				}
			}
		}
	})
	for op := int64(impl.OpRead); op <= impl.OpSync; op++ {
		if barred[op] == 0 || let[op] == 0 {
			t.Errorf("Op %d: %d barred, %d let through", op, barred[op], let[op])
		}
	}
}

// Who may read and not write is barred from OpSync and from a swap of what is not there, too.
func TestWhoMayIsWrittenOut(t *testing.T) {
	d := rampDisk(3)
	writes := []impl.Cmd{writeOf(0, 4), swapOf(0, 50, 4), swapOf(0, 1, 4), unmapOf(0), syncCmd}
	for _, one := range []struct {
		what          string
		h             impl.Holding
		who           int64
		reads, writes bool
	}{
		{"nothing is held", held(0, -1, 8, 5, 7, 0, 0), 3, true, true},
		{"KiWrite, who holds it", held(1, 0, 8, 5, 7, 0, 0), 0, true, true},
		{"KiWrite, registered", held(1, 0, 8, 5, 7, 0, 0), 1, true, false},
		{"KiWrite, a stranger", held(1, 0, 8, 5, 7, 0, 0), 2, true, false},
		{"KiAll, who holds it", held(2, 1, 8, 5, 7, 0, 0), 1, true, true},
		{"KiAll, registered", held(2, 1, 8, 5, 7, 0, 0), 0, false, false},
		{"KiAll, with the Holder's key", held(2, 1, 8, 7, 7, 0, 0), 0, false, false},
		{"KiAll, a stranger", held(2, 1, 8, 5, 7, 0, 0), 3, false, false},
		{"KiRegWrite, registered", held(3, 1, 8, 5, 7, 0, 0), 0, true, true},
		{"KiRegWrite, a stranger", held(3, 1, 8, 5, 7, 0, 0), 3, true, false},
		{"KiRegAll, registered", held(4, 1, 8, 5, 7, 0, 0), 0, true, true},
		{"KiRegAll, a stranger", held(4, 1, 8, 5, 7, 0, 0), 2, false, false},
		{"KiAllWrite, registered", held(5, -1, 8, 5, 7, 0, 0), 1, true, true},
		{"KiAllWrite, a stranger", held(5, -1, 8, 5, 7, 0, 0), 2, true, false},
		{"KiAllBoth, registered", held(6, -1, 8, 5, 7, 0, 0), 0, true, true},
		{"KiAllBoth, a stranger", held(6, -1, 8, 5, 7, 0, 0), 3, false, false},
	} {
		t.Run(one.what, func(t *testing.T) {
			s := storeOf(d, one.h)
			if one.reads {
				wantStored(t, s, one.who, readOf(1), s, impl.SaGood, "51")
			} else {
				wantStays(t, s, one.who, readOf(1), impl.SaConflict)
			}
			for _, c := range writes {
				if _, a := impl.DidStore(s, one.who, c); one.writes != (a.Status != impl.SaConflict) {
					t.Errorf("DidStore(%v, %d, %v) tells %v", s, one.who, c, a)
				}
			}
		})
	}
}

// What is done to blocks, written out: Kept and Now are told apart, the Holding stays.
func TestBlocksOfAStoreWrittenOut(t *testing.T) {
	kept, now := []int64{1, 2}, []int64{1, 9999}
	h := held(2, 3, 8, 0, 7, 0, 6)
	s := storeOf(diskOf(kept, now), h)
	for _, one := range []struct {
		c      impl.Cmd
		now    []int64
		status int64
		text   string
	}{
		{readOf(0), now, impl.SaGood, "1"},
		{readOf(1), now, impl.SaGood, "9999"},
		{readOf(2), now, impl.SaRange, ""},
		{writeOf(0, 9999), []int64{9999, 9999}, impl.SaGood, ""},
		{writeOf(0, 10000), now, impl.SaRange, ""},
		{writeOf(2, 0), now, impl.SaRange, ""},
		{swapOf(1, 9999, 0), []int64{1, 0}, impl.SaGood, ""},
		{swapOf(1, 2, 0), now, impl.SaUnlike, "9999"},
		{swapOf(1, 2, 10000), now, impl.SaRange, ""},
		{swapOf(2, 2, 0), now, impl.SaRange, ""},
		{unmapOf(1), []int64{1, 0}, impl.SaGood, ""},
		{unmapOf(2), now, impl.SaRange, ""},
	} {
		wantStored(t, s, 3, one.c, storeOf(diskOf(kept, one.now), h), one.status, one.text)
	}
	wantStored(t, s, 3, syncCmd, storeOf(diskOf(now, now), h), impl.SaGood, "")
}

// A storeTest is one sentence of the chapter about what is held: what is answered, and what is held after it.
type storeTest struct {
	what   string
	who    int64
	c      impl.Cmd
	h      impl.Holding
	want   impl.Holding
	status int64
}

func TestActionsOfAStoreWrittenOut(t *testing.T) {
	free, alone, all := held(0, -1, 8, 5, 7, 0, 0), held(2, 1, 8, 5, 7, 0, 0), held(6, -1, 8, 5, 7, 0, 0)
	for _, one := range []storeTest{
		{"OpRegister of a stranger", 3, registerOf(6), alone, held(2, 1, 9, 5, 7, 0, 6), impl.SaGood},
		{"OpRegister with the greatest key", 0, registerOf(9999), free, held(0, -1, 9, 9999, 7, 0, 0), impl.SaGood},
		{"OpRegister with 0 of who holds it", 1, registerOf(0), alone, held(0, -1, 9, 5, 0, 0, 0), impl.SaGood},
		{"OpRegister after MaxTurn", 3, registerOf(6), held(0, -1, impl.MaxTurn, 0, 0, 0, 0), held(0, -1, 0, 0, 0, 0, 6), impl.SaGood},
		{"OpReserve alone", 0, reserveOf(impl.KiWrite), free, held(1, 0, 8, 5, 7, 0, 0), impl.SaGood},
		{"OpReserve for all", 0, reserveOf(impl.KiAllBoth), free, all, impl.SaGood},
		{"OpReserve once more", 1, reserveOf(impl.KiAll), alone, alone, impl.SaGood},
		{"OpReserve of what another one holds", 0, reserveOf(impl.KiAll), alone, alone, impl.SaConflict},
		{"OpReserve with another kind", 1, reserveOf(impl.KiWrite), alone, alone, impl.SaConflict},
		{"OpReserve of a stranger", 2, reserveOf(impl.KiWrite), free, free, impl.SaConflict},
		{"OpRelease of who holds it", 1, releaseCmd, alone, free, impl.SaGood},
		{"OpRelease of one of all", 0, releaseCmd, all, free, impl.SaGood},
		{"OpRelease of who does not hold it", 0, releaseCmd, alone, alone, impl.SaGood},
		{"OpRelease of a stranger", 2, releaseCmd, alone, alone, impl.SaConflict},
		{"OpClear of who does not hold it", 0, clearCmd, alone, held(0, -1, 9, 0, 0, 0, 0), impl.SaGood},
		{"OpClear of a stranger", 3, clearCmd, all, all, impl.SaConflict},
		{"OpPreempt of the Holder's key", 0, preemptOf(7, impl.KiRegAll), alone, held(4, 0, 9, 5, 0, 0, 0), impl.SaGood},
		{"OpPreempt of another key", 1, preemptOf(5, impl.KiWrite), alone, held(2, 1, 9, 0, 7, 0, 0), impl.SaGood},
		{"OpPreempt for all", 0, preemptOf(7, impl.KiAllWrite), alone, held(5, -1, 9, 5, 0, 0, 0), impl.SaGood},
		{"OpPreempt of who is left alone of all", 0, preemptOf(7, impl.KiWrite), all, held(1, 0, 9, 5, 0, 0, 0), impl.SaGood},
		{"OpPreempt of a key that nobody has", 0, preemptOf(6, impl.KiAll), alone, alone, impl.SaConflict},
		{"OpPreempt of a stranger", 2, preemptOf(7, impl.KiAll), alone, alone, impl.SaConflict},
		{"OpPreempt of key 0", 0, preemptOf(0, impl.KiAll), alone, alone, impl.SaRange},
		{"OpPreempt of key 0, nothing held", 0, preemptOf(0, impl.KiAllBoth), free, free, impl.SaRange},
		{"OpPreempt of key 0 of a stranger", 3, preemptOf(0, impl.KiAll), all, all, impl.SaRange},
	} {
		t.Run(one.what, func(t *testing.T) {
			for _, d := range []impl.Disk{rampDisk(1), rampDisk(8), diskOf(filled(4, 9999), filled(4, 0))} {
				wantStored(t, storeOf(d, one.h), one.who, one.c, storeOf(d, one.want), one.status, "")
			}
		})
	}
}

// All with the key of OpPreempt are the others with its A, whatever its B is.
func TestTheKeyOfPreemptIsItsA(t *testing.T) {
	h := held(1, 0, 8, 5, 7, 6, 5)
	for _, b := range []int64{1, 5, 6, 7, 8, 9998, 9999} {
		preempt := func(a int64) impl.Cmd { return impl.Cmd{Op: impl.OpPreempt, A: a, B: b, Kind: impl.KiAll} }
		s := storeOf(rampDisk(3), h)
		wantStored(t, s, 1, preempt(5), storeOf(rampDisk(3), held(2, 1, 9, 0, 7, 6, 0)), impl.SaGood, "")
		wantStored(t, s, 1, preempt(6), storeOf(rampDisk(3), held(1, 0, 9, 5, 7, 0, 5)), impl.SaGood, "")
		wantStays(t, s, 1, preempt(8), impl.SaConflict)
		wantStays(t, s, 1, preempt(0), impl.SaRange)
	}
}

// Everybody is told, also where it bars from reading.
func TestKeysAndHolderWrittenOut(t *testing.T) {
	for _, one := range []struct {
		h            impl.Holding
		keys, holder string
	}{
		{impl.NewHolding(), "0", "0 0 0"},
		{held(0, -1, 8, 5, 0, 7, 0), "8 5 7", "8 0 0"},
		{held(1, 2, 8, 5, 0, 7, 0), "8 5 7", "8 1 7"},
		{held(2, 0, 8, 5, 0, 7, 0), "8 5 7", "8 2 5"},
		{held(3, 3, 0, 0, 0, 0, 9999), "0 9999", "0 3 9999"},
		{held(4, 1, 1000000000, 1, 2, 3, 4), "1000000000 1 2 3 4", "1000000000 4 2"},
		{held(5, -1, 8, 5, 5, 0, 0), "8 5 5", "8 5 0"},
		{held(6, -1, 8, 0, 0, 6, 0), "8 6", "8 6 0"},
	} {
		for who := range int64(4) {
			for n := 1; n <= 8; n++ {
				s := storeOf(rampDisk(n), one.h)
				wantStored(t, s, who, keysCmd, s, impl.SaGood, one.keys)
				wantStored(t, s, who, holderCmd, s, impl.SaGood, one.holder)
			}
		}
	}
}

func TestKeysAndHolderOfEachStore(t *testing.T) {
	eachStore(func(s impl.Store) {
		for _, s.Holding.Turn = range rightTurns {
			for who := range int64(4) {
				wantStored(t, s, who, keysCmd, s, impl.SaGood, impl.KeysOf(s.Holding))
				wantStored(t, s, who, holderCmd, s, impl.SaGood, impl.HolderOf(s.Holding))
			}
		}
	})
}

func TestActionsChangeNoBlock(t *testing.T) {
	told := map[int64]int{}
	eachStore(func(s impl.Store) {
		for who := range int64(4) {
			for _, c := range actionCmds() {
				h, code := deedOf(who, c).done(s.Holding)
				told[code]++
				switch code {
				case impl.AnOk:
					wantStored(t, s, who, c, storeOf(s.Disk, h), impl.SaGood, "")
				case impl.AnConflict:
					wantStays(t, s, who, c, impl.SaConflict)
				default:
					wantStays(t, s, who, c, impl.SaRange)
				}
			}
		}
	})
	for code := int64(impl.AnOk); code <= impl.AnBad; code++ {
		if told[code] == 0 {
			t.Errorf("no action is told %d", code)
		}
	}
}

func TestWhatIsDoneToBlocksChangesNoHolding(t *testing.T) {
	eachStore(func(s impl.Store) {
		for who := range int64(4) {
			for _, c := range append(blockCmds(), tellCmds()...) {
				if got, _ := impl.DidStore(s, who, c); !sameHolding(got.Holding, s.Holding) {
					t.Errorf("DidStore(%v, %d, %v) = %v", s, who, c, got)
				}
			}
		}
	})
}

func TestNewStore(t *testing.T) {
	for n := int64(1); n <= 8; n++ {
		want := storeOf(diskOf(filled(int(n), 0), filled(int(n), 0)), held(0, -1, 0, 0, 0, 0, 0))
		got, made := impl.NewStore(n)
		if !made || !sameStore(got, want) || !impl.StoreOk(got) {
			t.Errorf("NewStore(%d) = %v, %v", n, got, made)
		}
	}
	for _, n := range append([]int64{0, 9, 10, 255, 256, 257}, farFields...) {
		if got, made := impl.NewStore(n); made || !noStore(got) {
			t.Errorf("NewStore(%d) = %v, %v", n, got, made)
		}
	}
}

func TestNewStoreIsNewMemory(t *testing.T) {
	for n := int64(1); n <= 8; n++ {
		first, _ := impl.NewStore(n)
		second, _ := impl.NewStore(n)
		spoilStore(first)
		if again, _ := impl.NewStore(n); !sameStore(second, again) || !impl.StoreOk(again) {
			t.Errorf("NewStore(%d) = %v after one was written over", n, again)
		}
	}
}

func TestStoreOk(t *testing.T) {
	eachStore(func(s impl.Store) {
		for _, s.Disk = range someDisks() {
			if !impl.StoreOk(s) {
				t.Errorf("StoreOk(%v) = false", s)
			}
		}
	})
	for _, s := range brokenStores() {
		if impl.StoreOk(s) {
			t.Errorf("StoreOk(%v) = true", s)
		}
	}
}

func TestPowerWrittenOut(t *testing.T) {
	h := held(4, 2, 8, 5, 0, 7, 0)
	s := storeOf(diskOf([]int64{1, 2, 3}, []int64{4, 5, 6}), h)
	for _, one := range []struct {
		set  int64
		left []int64
	}{
		{0, []int64{1, 2, 3}}, {1, []int64{4, 2, 3}}, {2, []int64{1, 5, 3}}, {4, []int64{1, 2, 6}}, {5, []int64{4, 2, 6}},
		{7, []int64{4, 5, 6}}, {8, []int64{1, 2, 3}}, {248, []int64{1, 2, 3}}, {254, []int64{1, 5, 6}}, {255, []int64{4, 5, 6}},
	} {
		if got, want := impl.Power(s, one.set), storeOf(diskOf(one.left, one.left), h); !sameStore(got, want) {
			t.Errorf("Power(%v, %d) = %v, not %v", s, one.set, got, want)
		}
	}
}

// The Holding stays with every set, and what was synced with the empty one.
func TestPowerOfEachStore(t *testing.T) {
	eachStore(func(s impl.Store) {
		for _, n := range []int{1, 3, 8} {
			s.Disk = rampDisk(n)
			for set := range int64(256) {
				left := lostByHand(s.Disk, set)
				if got := impl.Power(s, set); !sameStore(got, storeOf(diskOf(left, left), s.Holding)) {
					t.Errorf("Power(%v, %d) = %v", s, set, got)
				}
			}
			s.Disk.Kept = s.Disk.Now
			if got := impl.Power(s, 0); !sameStore(got, s) {
				t.Errorf("Power(%v, 0) = %v", s, got)
			}
		}
	})
}

func TestPowerOfNoSet(t *testing.T) {
	eachStore(func(s impl.Store) {
		for _, set := range append([]int64{256, 257, 511}, farFields...) {
			if got := impl.Power(s, set); !sameStore(got, s) {
				t.Errorf("Power(%v, %d) = %v", s, set, got)
			}
		}
	})
}

func wantAlike(t *testing.T, a, b impl.Store, want bool) {
	t.Helper()
	if impl.Alike(a, b) != want || impl.Alike(b, a) != want {
		t.Errorf("Alike(%v, %v) = %v, and the other way %v", a, b, impl.Alike(a, b), impl.Alike(b, a))
	}
}

func TestAlikeOfTheSame(t *testing.T) {
	eachStore(func(s impl.Store) {
		for _, s.Disk = range someDisks() {
			wantAlike(t, s, s, true)
			wantAlike(t, s, cloneStore(s), true)
			roomy := cloneStore(s)
			roomy.Disk.Now = append(roomy.Disk.Now, 1, 2)[:len(s.Disk.Now)]
			roomy.Holding.Keys = append(roomy.Holding.Keys, 1, 2)[:4]
			wantAlike(t, s, roomy, true)
		}
	})
}

func TestAlikeOfOneBlockThatDiffers(t *testing.T) {
	for _, d := range someDisks() {
		s := storeOf(d, held(6, -1, 8, 5, 7, 0, 0))
		for at := range d.Now {
			now, kept := cloneStore(s), cloneStore(s)
			now.Disk.Now[at] = (d.Now[at] + 1) % 10000
			kept.Disk.Kept[at] = (d.Kept[at] + 1) % 10000
			wantAlike(t, s, now, false)
			wantAlike(t, s, kept, false)
			wantAlike(t, now, kept, false)
		}
	}
}

// Kept of one as Now of the other is not in common, and more noughts are more blocks.
func TestAlikeOfOtherDisks(t *testing.T) {
	h := held(0, -1, 8, 5, 7, 0, 0)
	for n := 1; n <= 8; n++ {
		wantAlike(t, storeOf(rampDisk(n), h), storeOf(diskOf(ramp(n, 50), ramp(n, 5)), h), false)
		for m := 1; m <= 8; m++ {
			a, _ := impl.NewStore(int64(n))
			b, _ := impl.NewStore(int64(m))
			wantAlike(t, a, b, n == m)
			wantAlike(t, storeOf(rampDisk(n), h), storeOf(rampDisk(m), h), n == m)
		}
	}
}

func TestAlikeOfOneFieldOfTheHolding(t *testing.T) {
	s := held(3, 1, 8, 5, 7, 0, 9999)
	for _, one := range []struct {
		what string
		a, b impl.Holding
	}{
		{"the Key of 0", s, held(3, 1, 8, 6, 7, 0, 9999)},
		{"the Key of 1", s, held(3, 1, 8, 5, 8, 0, 9999)},
		{"the Key of 2", s, held(3, 1, 8, 5, 7, 1, 9999)},
		{"the Key of 3", s, held(3, 1, 8, 5, 7, 0, 0)},
		{"Keys in another order", s, held(3, 1, 8, 9999, 7, 0, 5)},
		{"Kind", s, held(4, 1, 8, 5, 7, 0, 9999)},
		{"Kind of what is held by all", held(5, -1, 8, 5, 7, 0, 0), held(6, -1, 8, 5, 7, 0, 0)},
		{"Kind of all or none", held(0, -1, 8, 5, 7, 0, 0), held(6, -1, 8, 5, 7, 0, 0)},
		{"Holder", s, held(3, 0, 8, 5, 7, 0, 9999)},
		{"Holder of those with one Key", held(1, 0, 8, 5, 5, 0, 0), held(1, 1, 8, 5, 5, 0, 0)},
		{"Turn", s, held(3, 1, 9, 5, 7, 0, 9999)},
		{"Turn at its edges", held(0, -1, 0, 0, 0, 0, 0), held(0, -1, impl.MaxTurn, 0, 0, 0, 0)},
	} {
		t.Run(one.what, func(t *testing.T) {
			a, b := storeOf(rampDisk(3), one.a), storeOf(rampDisk(3), one.b)
			if !impl.StoreOk(a) || !impl.StoreOk(b) {
				t.Fatal(a, b)
			}
			wantAlike(t, a, b, false)
		})
	}
}

// Each of eachHolding is like itself alone.
func TestAlikeOfEachTwoHoldings(t *testing.T) {
	list := []impl.Store{}
	eachStore(func(s impl.Store) { list = append(list, s) })
	for i, a := range list {
		for j, b := range list {
			if impl.Alike(a, b) != (i == j) {
				t.Errorf("Alike(%v, %v) = %v", a, b, i != j)
			}
		}
	}
}

func TestOfNoStore(t *testing.T) {
	cmds := []impl.Cmd{readOf(0), writeOf(0, 1), syncCmd, registerOf(6), preemptOf(0, 1), keysCmd, holderCmd, {}, {Op: 13}, {Op: impl.OpRead, A: 1}, {Op: impl.OpWrite, At: 256}}
	for _, s := range brokenStores() {
		for _, who := range []int64{-1, 0, 2, 3, 4} {
			for _, c := range cmds {
				wantStored(t, s, who, c, impl.Store{}, impl.SaNone, "")
			}
		}
		for _, set := range []int64{-1, 0, 1, 5, 255, 256} {
			if got := impl.Power(s, set); !noStore(got) {
				t.Errorf("Power(%v, %d) = %v", s, set, got)
			}
		}
		wantAlike(t, s, s, false)
		wantAlike(t, s, cloneStore(s), false)
		wantAlike(t, s, impl.Store{}, false)
		wantAlike(t, s, storeOf(rampDisk(3), held(2, 2, 3, 5, 0, 7, 0)), false)
	}
}

// One part that is not right in both, and the other one right: not alike though all is in common.
func TestAlikeOfTwoThatAreWrongInTheSameWay(t *testing.T) {
	for _, d := range notDisks() {
		wantAlike(t, storeOf(d, impl.NewHolding()), storeOf(cloneDisk(d), impl.NewHolding()), false)
	}
	for _, b := range breaches() {
		wantAlike(t, storeOf(rampDisk(3), b.broken), storeOf(rampDisk(3), cloneHolding(b.broken)), false)
	}
}

// Who is none is told SaNone with each kind of command, also where everybody may and where nobody else may.
func TestDidStoreOfNoPerson(t *testing.T) {
	cmds := append(allCmds(), notCmds()[:50]...)
	for _, h := range []impl.Holding{impl.NewHolding(), held(0, -1, 8, 5, 7, 6, 4), held(2, 0, 8, 5, 7, 0, 0), held(6, -1, 8, 5, 7, 0, 4)} {
		for _, who := range notPeople {
			for _, c := range cmds {
				wantStays(t, storeOf(rampDisk(3), h), who, c, impl.SaNone)
			}
		}
	}
}

// What is no command is told SaNone, also to who may not and to strangers.
func TestDidStoreOfNoCmd(t *testing.T) {
	for _, h := range []impl.Holding{impl.NewHolding(), held(2, 0, 8, 5, 7, 0, 0), held(6, -1, 8, 5, 7, 0, 4)} {
		for _, who := range []int64{-1, 0, 1, 2, 3, 4} {
			for _, c := range notCmds() {
				wantStays(t, storeOf(rampDisk(3), h), who, c, impl.SaNone)
			}
		}
	}
}

func TestWhatComesFirstOfTwo(t *testing.T) {
	s := storeOf(rampDisk(3), held(2, 0, 8, 5, 7, 0, 0))
	broken := storeOf(rampDisk(3), held(2, 2, 8, 5, 7, 0, 0))
	zero := impl.Store{}
	for _, one := range []struct {
		what   string
		s      impl.Store
		who    int64
		c      impl.Cmd
		want   impl.Store
		status int64
	}{
		{"may not, and At is no block", s, 2, readOf(3), s, impl.SaConflict},
		{"may not, and A is above MaxValue", s, 1, writeOf(0, 10000), s, impl.SaConflict},
		{"may not, and B is above MaxValue", s, 1, swapOf(0, 50, 10000), s, impl.SaConflict},
		{"may not, and another value is there", s, 1, swapOf(0, 1, 2), s, impl.SaConflict},
		{"who is none, and may not", s, 4, readOf(0), s, impl.SaNone},
		{"who is none, and At is no block", s, 4, readOf(3), s, impl.SaNone},
		{"who is none, and key 0 of OpPreempt", s, -1, preemptOf(0, 1), s, impl.SaNone},
		{"no command, and may not", s, 2, impl.Cmd{Op: impl.OpRead, A: 1}, s, impl.SaNone},
		{"no command, and At is no block", s, 0, impl.Cmd{Op: impl.OpRead, At: 256}, s, impl.SaNone},
		{"no command, and a stranger", s, 3, impl.Cmd{Op: impl.OpClear, Kind: 1}, s, impl.SaNone},
		{"no command, and who is none", s, 4, impl.Cmd{Op: 13}, s, impl.SaNone},
		{"key 0 of OpPreempt, and a stranger", s, 3, preemptOf(0, 1), s, impl.SaRange},
		{"no store, and who is none", broken, 4, readOf(0), zero, impl.SaNone},
		{"no store, and no command", broken, 0, impl.Cmd{}, zero, impl.SaNone},
		{"no store, and may not", broken, 0, writeOf(0, 1), zero, impl.SaNone},
		{"no store, and key 0 of OpPreempt", broken, 0, preemptOf(0, 1), zero, impl.SaNone},
		{"no store, who is none, and no command", broken, -1, impl.Cmd{Op: 13}, zero, impl.SaNone},
	} {
		t.Run(one.what, func(t *testing.T) { wantStored(t, one.s, one.who, one.c, one.want, one.status, "") })
	}
}

func TestEachCmdOfEachStore(t *testing.T) {
	cmds := allCmds()
	eachStore(func(s impl.Store) {
		for who := int64(-1); who <= 4; who++ {
			for _, c := range cmds {
				wantStoredByHand(t, s, who, c)
			}
		}
	})
	eachCmd(func(c impl.Cmd) {
		wantStoredByHand(t, storeOf(rampDisk(8), held(4, 1, 8, 1, 9999, 0, 1)), c.A%4, c)
	})
}

func TestEachCmdOfStoresWithAlikeKeys(t *testing.T) {
	cmds := slices.Concat([]impl.Cmd{readOf(0), writeOf(0, 1), syncCmd, releaseCmd, clearCmd, registerOf(0), registerOf(5), preemptOf(5, 2), preemptOf(5, 6), preemptOf(0, 1)}, tellCmds())
	eachAlikeHolding([]int64{0, 5, 6}, func(h impl.Holding) {
		for who := range int64(4) {
			for _, c := range cmds {
				wantStoredByHand(t, storeOf(rampDisk(2), h), who, c)
			}
		}
	})
}

// thrownStoreCmd is about as often one of blocks as one about what is held, or one that tells.
func thrownStoreCmd(source *rand.Rand) impl.Cmd {
	key, kind := source.Int63n(4), 1+source.Int63n(6)
	switch source.Intn(14) {
	case 0, 1:
		return registerOf(key)
	case 2, 3:
		return reserveOf(kind)
	case 4:
		return releaseCmd
	case 5:
		return []impl.Cmd{clearCmd, releaseCmd, reserveOf(kind)}[source.Intn(3)]
	case 6:
		return impl.Cmd{Op: impl.OpPreempt, A: key, B: 1 + source.Int63n(9999), Kind: kind}
	case 7:
		return tellCmds()[source.Intn(2)]
	}
	return thrownBlockCmd(source)
}

func thrownPerson(source *rand.Rand) int64 { return thrownNear(source, 1, 2, 1, 2, 1, 2, 0, 3) }

func TestDidStoreThrown(t *testing.T) {
	source := rand.New(rand.NewSource(14))
	told := map[int64]int{}
	for range 300000 {
		s, who, c := storeOf(thrownDisk(source), thrownHolding(source)), thrownPerson(source), thrownStoreCmd(source)
		_, a := storedByHand(s, who, c)
		told[a.Status]++
		wantStoredByHand(t, s, who, c)
		if impl.StoreOk(s) != storeOkByHand(s) {
			t.Errorf("StoreOk(%v) = %v", s, impl.StoreOk(s))
		}
	}
	for _, status := range []int64{impl.SaGood, impl.SaRange, impl.SaUnlike, impl.SaConflict, impl.SaNone} {
		if told[status] < 500 {
			t.Errorf("%d of what was thrown are told %d", told[status], status)
		}
	}
}

// One command behind another from a new store on: it stays right, and as told by hand; power takes what was not synced, and nobody's key.
func TestStoreInARow(t *testing.T) {
	source := rand.New(rand.NewSource(15))
	for n := int64(1); n <= 8; n++ {
		s, _ := impl.NewStore(n)
		for step := range 10000 {
			who, c := thrownPerson(source), thrownStoreCmd(source)
			wantStoredByHand(t, s, who, c)
			s, _ = impl.DidStore(s, who, c)
			if !impl.StoreOk(s) {
				t.Fatalf("step %d: %v of %d leaves no store: %v", step, c, who, s)
			}
			if step%97 == 0 {
				set := source.Int63n(256)
				left := lostByHand(s.Disk, set)
				want := storeOf(diskOf(left, slices.Clone(left)), s.Holding)
				if s = impl.Power(s, set); !sameStore(s, want) || !impl.Alike(s, want) {
					t.Fatalf("step %d: power with %d leaves %v, not %v", step, set, s, want)
				}
			}
		}
	}
}

func spoilStore(s impl.Store) {
	spoil(s.Disk.Kept)
	spoil(s.Disk.Now)
	spoil(s.Holding.Keys)
}

// A storeCall is a call with its other arguments given; what has no Store to answer answers the zero one.
type storeCall struct {
	name string
	call func(impl.Store) impl.Store
}

// storeCalls are calls with each kind of command: done, refused by each part, none.
func storeCalls() []storeCall {
	calls := []storeCall{
		{"StoreOk", func(s impl.Store) impl.Store { impl.StoreOk(s); return impl.Store{} }},
		{"Alike", func(s impl.Store) impl.Store {
			impl.Alike(s, s)
			impl.Alike(s, storeOf(rampDisk(3), impl.NewHolding()))
			impl.Alike(storeOf(rampDisk(3), impl.NewHolding()), s)
			return impl.Store{}
		}},
	}
	for _, set := range []int64{-1, 0, 1, 85, 254, 255, 256} {
		calls = append(calls, storeCall{fmt.Sprint("Power with ", set), func(s impl.Store) impl.Store { return impl.Power(s, set) }})
	}
	cmds := slices.Concat(blockCmds(), tellCmds(), []impl.Cmd{registerOf(0), registerOf(6), reserveOf(1), reserveOf(6), releaseCmd, clearCmd, preemptOf(0, 1), preemptOf(11, 2), preemptOf(22, 6), {}, {Op: 13}, {Op: impl.OpRead, At: -1}, {Op: impl.OpSync, A: 1}})
	for _, c := range cmds {
		for _, who := range []int64{-1, 0, 1, 3, 4} {
			calls = append(calls, storeCall{fmt.Sprint("DidStore by ", who, c), func(s impl.Store) impl.Store {
				got, _ := impl.DidStore(s, who, c)
				return got
			}})
		}
	}
	return calls
}

func storesToLeaveAlone() []impl.Store {
	list := []impl.Store{{}, storeOf(rampDisk(3), impl.Holding{}), storeOf(impl.Disk{}, impl.NewHolding()), storeOf(rampDisk(3), held(1, 2, 3, 11, 22, 0, 0)), storeOf(rampDisk(3), held(1, 0, 3, 11, 22, 0)), storeOf(diskOf(ramp(3, 5), ramp(2, 5)), held(1, 0, 3, 11, 22, 0, 0)), storeOf(diskOf(ramp(3, 5), ramp(3, 9998)), impl.NewHolding())}
	eachStore(func(s impl.Store) { list = append(list, s) })
	for n := 1; n <= 8; n++ {
		list = append(list, storeOf(rampDisk(n), held(2, 1, 3, 11, 22, 0, 0)), storeOf(diskOf(ramp(n, 5), ramp(n, 5)), held(6, -1, 3, 11, 22, 0, 0)))
	}
	return list
}

// Promise 21: nothing is written into an argument or behind it, and none of it is handed out.
func TestStoreLeavesItsArgument(t *testing.T) {
	calls := storeCalls()
	for _, s := range storesToLeaveAlone() {
		for _, c := range calls {
			sameArgs(t, c.name, [][]int64{s.Disk.Kept, s.Disk.Now, s.Holding.Keys}, func(in [][]int64) {
				given := s
				given.Disk, given.Holding.Keys = diskOf(in[0], in[1]), in[2]
				spoilStore(c.call(given))
			})
		}
	}
}

func listsOf(s impl.Store) [][]int64 { return [][]int64{s.Disk.Kept, s.Disk.Now, s.Holding.Keys} }

// Each list of an answer is written over by itself: the other two stay.
func TestListsOfAStoreShareNothing(t *testing.T) {
	calls := storeCalls()
	for _, s := range storesToLeaveAlone() {
		for _, c := range calls {
			want := listsOf(c.call(s))
			for k := range want {
				got := listsOf(c.call(s))
				spoil(got[k])
				for other := range want {
					if other != k && !slices.Equal(got[other], want[other]) {
						t.Errorf("%s of %v: list %d is %v after list %d was written over", c.name, s, other, got[other], k)
					}
				}
			}
		}
	}
}

// A store whose three lists lie over each other in memory is not told from one whose lists do not.
func TestStoreOfListsThatShare(t *testing.T) {
	whole := []int64{11, 22, 33, 44, 55, 66}
	for _, c := range storeCalls() {
		for from := range 3 {
			over := storeOf(diskOf(whole[from:from+4], whole[:4]), impl.Holding{Keys: whole[from : from+4], Kind: 3, Holder: 1, Turn: 3})
			apart := cloneStore(over)
			got := c.call(over)
			if want := c.call(apart); !sameStore(got, want) {
				t.Errorf("%s of %v = %v, not %v", c.name, apart, got, want)
			}
			spoilStore(got)
			if !sameStore(over, apart) {
				t.Fatalf("%s hands out its argument", c.name)
			}
		}
	}
}

// The spare room behind the lists tells nothing.
func TestStoreWithRoomBehindItsLists(t *testing.T) {
	kept, now, keys := ramp(10, 5), ramp(10, 50), []int64{5, 6, 7, 8, 9, 9}
	for n := range 10 {
		for m := range 6 {
			s := storeOf(diskOf(kept[:n], now[:n]), held(3, 0, 8, keys[:m]...))
			for _, c := range append(blockCmds(), registerOf(9), preemptOf(9, 1), keysCmd, holderCmd) {
				wantStoredByHand(t, s, 1, c)
			}
			wantAlike(t, s, cloneStore(s), storeOkByHand(s))
		}
	}
}
