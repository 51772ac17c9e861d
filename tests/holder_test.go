package tests

import (
	"fmt"
	"math"
	"math/rand"
	"slices"
	"testing"

	"loop.example/g00354/impl"
)

// notPeople are none of the four: near the edges, far from them, and those that a byte, two or four would cut to one.
var notPeople = []int64{
	-1, -2, -3, -4, -5, 4, 5, 6, 7, 8, 15, 16, 63, 64, 127, 128, -128, 255, 256, 257, 259, -255, -256, 65535, 65536, 65539,
	1 << 31, 1 << 32, 1<<32 + 1, 1<<32 + 3, -1 << 32, -1<<32 + 2, 1 << 62, math.MaxInt64, math.MaxInt64 - 1, math.MinInt64, math.MinInt64 + 1, math.MinInt64 + 3,
}

// notKeys and notTurns are out of range, as far as notPeople are.
var notKeys = []int64{-1, -2, -9999, impl.MaxKey + 1, impl.MaxKey + 2, 65536, 1 << 32, 1<<32 + 5, math.MaxInt64, math.MinInt64, math.MinInt64 + 5}

var notTurns = []int64{-1, -2, -1000000000, impl.MaxTurn + 1, impl.MaxTurn + 2, 1 << 31, 1 << 32, 1<<32 + 5, math.MaxInt64, math.MinInt64, math.MinInt64 + 5}

var rightTurns = []int64{0, 1, 2, 999999999, 1000000000}

// keysOf gives a Key to each of the four that is to be registered; no two are alike.
func keysOf(who [4]bool) []int64 {
	keys := make([]int64, 4)
	for i, in := range who {
		if in {
			keys[i] = int64(11 * (i + 1))
		}
	}
	return keys
}

// eachRegistered goes through all that can be registered, from nobody to all four.
func eachRegistered(see func(who [4]bool)) {
	for set := range 16 {
		see([4]bool{set&1 != 0, set&2 != 0, set&4 != 0, set&8 != 0})
	}
}

// eachHolding goes through each right way to hold: by whom it is held, and who is registered. held is who is to hold it.
func eachHolding(see func(h impl.Holding, registered [4]bool, held [4]bool)) {
	eachRegistered(func(who [4]bool) {
		see(impl.Holding{Keys: keysOf(who), Kind: 0, Holder: -1}, who, [4]bool{})
		for kind := int64(1); kind <= 4; kind++ {
			for holder := range 4 {
				if who[holder] {
					held := [4]bool{}
					held[holder] = true
					see(impl.Holding{Keys: keysOf(who), Kind: kind, Holder: int64(holder)}, who, held)
				}
			}
		}
		for kind := int64(5); kind <= 6 && who != [4]bool{}; kind++ {
			see(impl.Holding{Keys: keysOf(who), Kind: kind, Holder: -1}, who, who)
		}
	})
}

// mayOf reads the table of chapter 7, written out in rule_test.go.
func mayOf(kind int64, writes, holds, registered bool) bool {
	if kind == 0 || holds {
		return true
	}
	row := ruleRows[kind-1]
	if registered {
		return mayByHand(row.registered, writes)
	}
	return mayByHand(row.stranger, writes)
}

// holdingOkByHand tells the chapter's sentence once more, apart from the program's way.
func holdingOkByHand(h impl.Holding) bool {
	if len(h.Keys) != 4 || h.Turn < 0 || h.Turn > 1000000000 {
		return false
	}
	if slices.Min(h.Keys) < 0 || slices.Max(h.Keys) > 9999 {
		return false
	}
	switch h.Kind {
	case 0:
		return h.Holder == -1
	case 1, 2, 3, 4:
		return h.Holder >= 0 && h.Holder <= 3 && h.Keys[h.Holder] > 0
	case 5, 6:
		return h.Holder == -1 && slices.Max(h.Keys) > 0
	}
	return false
}

func cloneHolding(h impl.Holding) impl.Holding {
	h.Keys = slices.Clone(h.Keys)
	return h
}

func sameHolding(a, b impl.Holding) bool {
	return slices.Equal(a.Keys, b.Keys) && a.Kind == b.Kind && a.Holder == b.Holder && a.Turn == b.Turn
}

// wantPerson asks all that can be asked of one person.
func wantPerson(t *testing.T, h impl.Holding, who int64, registered, holds bool) {
	t.Helper()
	if got := impl.Registered(h, who); got != registered {
		t.Errorf("Registered(%v, %d) = %v", h, who, got)
	}
	if got := impl.Holds(h, who); got != holds {
		t.Errorf("Holds(%v, %d) = %v", h, who, got)
	}
	for _, writes := range eachFlag {
		if got := impl.May(h, who, writes); got != mayOf(h.Kind, writes, holds, registered) {
			t.Errorf("May(%v, %d, %v) = %v", h, who, writes, got)
		}
	}
}

// wantNothingOf wants this one to be nothing to it, and let through to nothing.
func wantNothingOf(t *testing.T, h impl.Holding, who int64) {
	t.Helper()
	if impl.Registered(h, who) {
		t.Errorf("Registered(%v, %d) = true", h, who)
	}
	if impl.Holds(h, who) {
		t.Errorf("Holds(%v, %d) = true", h, who)
	}
	for _, writes := range eachFlag {
		if impl.May(h, who, writes) {
			t.Errorf("May(%v, %d, %v) = true", h, who, writes)
		}
	}
}

// wantNoHolding wants it refused, and of everybody false.
func wantNoHolding(t *testing.T, h impl.Holding) {
	t.Helper()
	if impl.HoldingOk(h) {
		t.Errorf("HoldingOk(%v) = true", h)
	}
	for who := int64(-2); who <= 6; who++ {
		wantNothingOf(t, h, who)
	}
	wantNothingOf(t, h, h.Holder)
}

func TestMaxTurn(t *testing.T) {
	if impl.MaxTurn != 1000000000 {
		t.Errorf("MaxTurn = %d", impl.MaxTurn)
	}
}

func TestNewHolding(t *testing.T) {
	want := impl.Holding{Keys: []int64{0, 0, 0, 0}, Kind: 0, Holder: -1, Turn: 0}
	got := impl.NewHolding()
	if !sameHolding(got, want) {
		t.Errorf("NewHolding() = %v", got)
	}
	if !impl.HoldingOk(got) {
		t.Errorf("HoldingOk(%v) = false", got)
	}
	for who := range int64(4) {
		wantPerson(t, got, who, false, false)
		if !impl.May(got, who, false) || !impl.May(got, who, true) {
			t.Errorf("%d may not, and nothing is held", who)
		}
	}
}

func TestNewHoldingIsNewMemory(t *testing.T) {
	first, second := impl.NewHolding(), impl.NewHolding()
	spoil(first.Keys)
	if want := []int64{0, 0, 0, 0}; !slices.Equal(second.Keys, want) || !slices.Equal(impl.NewHolding().Keys, want) {
		t.Errorf("after one was written over: %v, and a new one %v", second, impl.NewHolding())
	}
}

// Of one that is held alone one Holds it.
func TestOneHoldsWhatIsHeldAlone(t *testing.T) {
	for _, kind := range []int64{impl.KiWrite, impl.KiAll, impl.KiRegWrite, impl.KiRegAll} {
		for holder := range int64(4) {
			for _, keys := range [][]int64{{5, 6, 7, 8}, {5, 5, 5, 5}, {1, 9999, 9999, 1}} {
				h := impl.Holding{Keys: keys, Kind: kind, Holder: holder, Turn: 3}
				if !impl.HoldingOk(h) {
					t.Errorf("HoldingOk(%v) = false", h)
				}
				for who := range int64(4) {
					if got := impl.Holds(h, who); got != (who == holder) {
						t.Errorf("Holds(%v, %d) = %v", h, who, got)
					}
				}
			}
		}
	}
}

// Of one for all each that is registered Holds it, and nobody else.
func TestAllThatAreRegisteredHoldWhatIsForAll(t *testing.T) {
	for _, kind := range []int64{impl.KiAllWrite, impl.KiAllBoth} {
		eachRegistered(func(registered [4]bool) {
			h := impl.Holding{Keys: keysOf(registered), Kind: kind, Holder: -1, Turn: 3}
			if registered == [4]bool{} {
				wantNoHolding(t, h)
				return
			}
			for who := range int64(4) {
				if got := impl.Holds(h, who); got != registered[who] {
					t.Errorf("Holds(%v, %d) = %v", h, who, got)
				}
			}
		})
	}
}

func TestNobodyHoldsWhatIsNotHeld(t *testing.T) {
	eachRegistered(func(registered [4]bool) {
		h := impl.Holding{Keys: keysOf(registered), Kind: 0, Holder: -1, Turn: 3}
		if !impl.HoldingOk(h) {
			t.Errorf("HoldingOk(%v) = false", h)
		}
		for who := int64(-2); who <= 5; who++ {
			if impl.Holds(h, who) {
				t.Errorf("Holds(%v, %d) = true", h, who)
			}
		}
		for who := range int64(4) {
			if !impl.May(h, who, false) || !impl.May(h, who, true) {
				t.Errorf("May(%v, %d, ..) = false, and nothing is held", h, who)
			}
		}
	})
}

func TestEachPersonOfEachHolding(t *testing.T) {
	seen := 0
	eachHolding(func(h impl.Holding, registered [4]bool, held [4]bool) {
		seen++
		for _, turn := range rightTurns {
			h.Turn = turn
			if !impl.HoldingOk(h) {
				t.Errorf("HoldingOk(%v) = false", h)
			}
			for who := range int64(4) {
				wantPerson(t, h, who, registered[who], held[who])
			}
		}
	})
	// 16 that are not held, 4 kinds with 8 for each of 4 holders, 2 kinds for 15.
	if seen != 16+4*4*8+2*15 {
		t.Fatalf("%d holdings", seen)
	}
}

// May is what Allowed says of what Holds and Registered say.
func TestMayIsAllowed(t *testing.T) {
	eachHolding(func(h impl.Holding, _ [4]bool, _ [4]bool) {
		for who := range int64(4) {
			for _, writes := range eachFlag {
				want := impl.Allowed(h.Kind, writes, impl.Holds(h, who), impl.Registered(h, who))
				if got := impl.May(h, who, writes); got != want {
					t.Errorf("May(%v, %d, %v) = %v", h, who, writes, got)
				}
			}
		}
	})
}

// The table of chapter 7, person by person: 0 holds it (of the last two kinds as 1 does), 1 is registered, 2 and 3 are nothing to it.
func TestMayWrittenOut(t *testing.T) {
	tests := []struct {
		kind, holder int64
		reads        [4]bool
		writes       [4]bool
	}{
		{0, -1, [4]bool{true, true, true, true}, [4]bool{true, true, true, true}},
		{impl.KiWrite, 0, [4]bool{true, true, true, true}, [4]bool{true, false, false, false}},
		{impl.KiAll, 0, [4]bool{true, false, false, false}, [4]bool{true, false, false, false}},
		{impl.KiRegWrite, 0, [4]bool{true, true, true, true}, [4]bool{true, true, false, false}},
		{impl.KiRegAll, 0, [4]bool{true, true, false, false}, [4]bool{true, true, false, false}},
		{impl.KiAllWrite, -1, [4]bool{true, true, true, true}, [4]bool{true, true, false, false}},
		{impl.KiAllBoth, -1, [4]bool{true, true, false, false}, [4]bool{true, true, false, false}},
	}
	for _, test := range tests {
		h := impl.Holding{Keys: []int64{5, 7, 0, 0}, Kind: test.kind, Holder: test.holder, Turn: 3}
		for who := range int64(4) {
			if got := impl.May(h, who, false); got != test.reads[who] {
				t.Errorf("May(%v, %d, false) = %v", h, who, got)
			}
			if got := impl.May(h, who, true); got != test.writes[who] {
				t.Errorf("May(%v, %d, true) = %v", h, who, got)
			}
		}
	}
}

func TestKeysAndTurnsAtTheEdges(t *testing.T) {
	for _, key := range []int64{1, 2, 255, 256, 9998, 9999} {
		for _, turn := range rightTurns {
			for who := range int64(4) {
				keys := make([]int64, 4)
				keys[who] = key
				for kind := int64(1); kind <= 6; kind++ {
					h := impl.Holding{Keys: keys, Kind: kind, Holder: who, Turn: turn}
					if kind > 4 {
						h.Holder = -1
					}
					if !impl.HoldingOk(h) || !impl.Registered(h, who) || !impl.Holds(h, who) || !impl.May(h, who, true) {
						t.Errorf("%v is not right, or not held by %d", h, who)
					}
				}
			}
		}
	}
}

// A breach is a right holding, and what it is with one thing broken.
type breach struct {
	what   string
	right  impl.Holding
	broken impl.Holding
}

func keyBreaches(right impl.Holding) []breach {
	list := []breach{}
	counts := [][]int64{nil, {}, {5}, {5, 6}, {5, 6, 7}, {5, 6, 7, 8, 9}, {5, 6, 7, 8, 0}, make([]int64, 3), make([]int64, 5), filled(8, 5), filled(256, 5), filled(260, 5)}
	for _, keys := range counts {
		broken := right
		broken.Keys = keys
		list = append(list, breach{fmt.Sprintf("%d Keys", len(keys)), right, broken})
	}
	for who := range 4 {
		for _, key := range notKeys {
			broken := cloneHolding(right)
			broken.Keys[who] = key
			list = append(list, breach{fmt.Sprintf("Key %d of %d", key, who), right, broken})
		}
	}
	return list
}

func numberBreaches(right impl.Holding) []breach {
	list := []breach{}
	for _, kind := range notKinds {
		broken := right
		broken.Kind = kind
		list = append(list, breach{fmt.Sprintf("Kind %d", kind), right, broken})
	}
	for _, turn := range notTurns {
		broken := right
		broken.Turn = turn
		list = append(list, breach{fmt.Sprintf("Turn %d", turn), right, broken})
	}
	for _, holder := range append([]int64{0, 1, 2, 3}, notPeople...) {
		broken := right
		broken.Holder = holder
		if !holdingOkByHand(broken) {
			list = append(list, breach{fmt.Sprintf("Holder %d", holder), right, broken})
		}
	}
	return list
}

// registeredBreaches take the Key of the one by whom it is held, or those of all by whom it is.
func registeredBreaches(right impl.Holding) []breach {
	if right.Kind == 0 {
		return nil
	}
	broken := cloneHolding(right)
	if right.Holder == -1 {
		clear(broken.Keys)
	} else {
		broken.Keys[right.Holder] = 0
	}
	return []breach{{"nobody there to hold it", right, broken}}
}

func breaches() []breach {
	list := []breach{}
	eachHolding(func(h impl.Holding, _ [4]bool, _ [4]bool) {
		h.Turn = 3
		list = append(list, keyBreaches(h)...)
		list = append(list, numberBreaches(h)...)
		list = append(list, registeredBreaches(h)...)
	})
	return list
}

func TestHoldingsWithOneThingBroken(t *testing.T) {
	for _, b := range breaches() {
		if !impl.HoldingOk(b.right) {
			t.Errorf("HoldingOk(%v) = false", b.right)
		}
		if impl.HoldingOk(b.broken) {
			t.Errorf("%s: HoldingOk(%v) = true", b.what, b.broken)
		}
		wantNoHolding(t, b.broken)
	}
}

// What the chapter rules out, written out one by one.
func TestNoHoldingWrittenOut(t *testing.T) {
	four := []int64{5, 0, 7, 0}
	tests := []struct {
		what string
		h    impl.Holding
	}{
		{"the zero Holding", impl.Holding{}},
		{"no Keys", impl.Holding{Holder: -1}},
		{"three Keys", impl.Holding{Keys: []int64{5, 0, 7}, Holder: -1}},
		{"five Keys", impl.Holding{Keys: []int64{5, 0, 7, 0, 0}, Holder: -1}},
		{"held by a fifth one", impl.Holding{Keys: []int64{5, 0, 7, 0, 9}, Kind: 1, Holder: 4}},
		{"a Key below 0", impl.Holding{Keys: []int64{5, 0, 7, -1}, Holder: -1}},
		{"a Key above MaxKey", impl.Holding{Keys: []int64{10000, 0, 7, 0}, Holder: -1}},
		{"held with a Key below 0", impl.Holding{Keys: []int64{-1, 0, 7, 0}, Kind: 1, Holder: 0}},
		{"for all with a Key below 0", impl.Holding{Keys: []int64{-1, 0, 0, 0}, Kind: 5, Holder: -1}},
		{"Kind 7", impl.Holding{Keys: four, Kind: 7, Holder: -1}},
		{"Kind 7 with a Holder", impl.Holding{Keys: four, Kind: 7, Holder: 0}},
		{"Kind -1", impl.Holding{Keys: four, Kind: -1, Holder: -1}},
		{"Kind -1 with a Holder", impl.Holding{Keys: four, Kind: -1, Holder: 0}},
		{"nothing held, by 0", impl.Holding{Keys: four, Kind: 0, Holder: 0}},
		{"nothing held, by one that is not registered", impl.Holding{Keys: four, Kind: 0, Holder: 1}},
		{"nothing held, by -2", impl.Holding{Keys: four, Kind: 0, Holder: -2}},
		{"nothing held, by 4", impl.Holding{Keys: four, Kind: 0, Holder: 4}},
		{"KiAllWrite with a Holder", impl.Holding{Keys: four, Kind: 5, Holder: 0}},
		{"KiAllBoth with a Holder", impl.Holding{Keys: four, Kind: 6, Holder: 2}},
		{"KiAllWrite with Holder -2", impl.Holding{Keys: four, Kind: 5, Holder: -2}},
		{"KiWrite by one that is not registered", impl.Holding{Keys: four, Kind: 1, Holder: 1}},
		{"KiRegAll by one that is not registered", impl.Holding{Keys: four, Kind: 4, Holder: 3}},
		{"KiWrite by nobody", impl.Holding{Keys: four, Kind: 1, Holder: -1}},
		{"KiRegWrite by nobody", impl.Holding{Keys: four, Kind: 3, Holder: -1}},
		{"KiAll by 4", impl.Holding{Keys: four, Kind: 2, Holder: 4}},
		{"KiAllWrite, nobody registered", impl.Holding{Keys: []int64{0, 0, 0, 0}, Kind: 5, Holder: -1}},
		{"KiAllBoth, nobody registered", impl.Holding{Keys: []int64{0, 0, 0, 0}, Kind: 6, Holder: -1}},
		{"Turn -1", impl.Holding{Keys: four, Kind: 1, Holder: 0, Turn: -1}},
		{"Turn MaxTurn + 1", impl.Holding{Keys: four, Kind: 1, Holder: 0, Turn: 1000000001}},
		{"nothing held, Turn -1", impl.Holding{Keys: four, Holder: -1, Turn: -1}},
		{"nothing held, Turn MaxTurn + 1", impl.Holding{Keys: four, Holder: -1, Turn: 1000000001}},
	}
	for _, test := range tests {
		t.Run(test.what, func(t *testing.T) { wantNoHolding(t, test.h) })
	}
}

func TestOfNoPerson(t *testing.T) {
	eachHolding(func(h impl.Holding, _ [4]bool, _ [4]bool) {
		for _, who := range notPeople {
			wantNothingOf(t, h, who)
		}
	})
}

// Each bit above the lowest two, alone and with a person below it, makes it none.
func TestOfPeopleWithAHighBit(t *testing.T) {
	all := []int64{5, 6, 7, 8}
	for bit := 2; bit < 64; bit++ {
		for low := range int64(4) {
			who := int64(uint64(1)<<bit) | low
			wantNothingOf(t, impl.Holding{Keys: all, Kind: 0, Holder: -1}, who)
			wantNothingOf(t, impl.Holding{Keys: all, Kind: 1, Holder: low}, who)
			wantNothingOf(t, impl.Holding{Keys: all, Kind: 6, Holder: -1}, who)
			wantNoHolding(t, impl.Holding{Keys: all, Kind: 1, Holder: who})
		}
	}
}

// wantByHand holds a holding, right or not, against the chapter told once more.
func wantByHand(t *testing.T, h impl.Holding) {
	t.Helper()
	if !holdingOkByHand(h) {
		wantNoHolding(t, h)
		return
	}
	if !impl.HoldingOk(h) {
		t.Errorf("HoldingOk(%v) = false", h)
	}
	for who := range int64(4) {
		registered := h.Keys[who] > 0
		wantPerson(t, h, who, registered, registered && (who == h.Holder || h.Kind > 4))
	}
	wantNothingOf(t, h, -1)
	wantNothingOf(t, h, 4)
}

func TestHoldingsOfAFewNumbers(t *testing.T) {
	eachBlocks(4, []int64{-1, 0, 1, 9999, 10000}, func(keys []int64) {
		for kind := int64(-1); kind <= 7; kind++ {
			for holder := int64(-2); holder <= 4; holder++ {
				wantByHand(t, impl.Holding{Keys: keys, Kind: kind, Holder: holder, Turn: 7})
			}
		}
	})
}

// A thrown number is near one of the edges, or anything at all.
func thrownNear(thrown *rand.Rand, edges ...int64) int64 {
	if thrown.Intn(12) == 0 {
		return int64(thrown.Uint64())
	}
	return edges[thrown.Intn(len(edges))] + int64(thrown.Intn(3)) - 1
}

func TestHoldingsThrown(t *testing.T) {
	thrown := rand.New(rand.NewSource(8))
	right := 0
	for range 20000 {
		h := impl.Holding{
			Keys:   make([]int64, 4),
			Kind:   thrownNear(thrown, 1, 2, 3, 4, 5),
			Holder: thrownNear(thrown, 0, 1, 2),
			Turn:   thrownNear(thrown, 1, 5000, impl.MaxTurn-1, impl.MaxTurn),
		}
		for who := range h.Keys {
			h.Keys[who] = thrownNear(thrown, 1, 1, 77, 9998)
		}
		if thrown.Intn(20) == 0 {
			h.Keys = make([]int64, thrown.Intn(9))
		}
		if holdingOkByHand(h) {
			right++
		}
		wantByHand(t, h)
	}
	if right < 1000 {
		t.Errorf("%d are right of what was thrown", right)
	}
}

// leavesHoldings runs the call on holdings, right and wrong, and wants their Keys, and what lies behind them, as they were.
func leavesHoldings(t *testing.T, call func(h impl.Holding)) {
	t.Helper()
	for _, b := range breaches() {
		for _, h := range []impl.Holding{b.right, b.broken} {
			sameArgs(t, "Holding", [][]int64{h.Keys}, func(in [][]int64) {
				h.Keys = in[0]
				call(h)
			})
		}
	}
}

func TestHoldingLeavesItsArgument(t *testing.T) {
	leavesHoldings(t, func(h impl.Holding) {
		impl.HoldingOk(h)
		spoil(impl.NewHolding().Keys)
		for who := int64(-2); who <= 6; who++ {
			impl.Registered(h, who)
			impl.Holds(h, who)
			impl.May(h, who, false)
			impl.May(h, who, true)
		}
	})
}

// The spare room behind the Keys tells nothing: three with a fourth behind them are three.
func TestKeysWithRoomBehindThem(t *testing.T) {
	whole := []int64{5, 6, 7, 8, 9, 9}
	for n := range 6 {
		for kind := int64(0); kind <= 6; kind++ {
			for holder := int64(-1); holder <= 5; holder++ {
				wantByHand(t, impl.Holding{Keys: whole[:n], Kind: kind, Holder: holder})
			}
		}
	}
}
