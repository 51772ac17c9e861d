package tests

import (
	"math/rand"
	"slices"
	"testing"

	"loop.example/g00354/impl"
)

// A deed is one call of chapter 9 with its arguments; what the call does not take is 0.
type deed struct {
	what string
	who  int64
	key  int64
	kind int64
}

func (d deed) done(h impl.Holding) (impl.Holding, int64) {
	switch d.what {
	case "Register":
		return impl.Register(h, d.who, d.key)
	case "Reserve":
		return impl.Reserve(h, d.who, d.kind)
	case "Release":
		return impl.Release(h, d.who)
	case "Clear":
		return impl.Clear(h, d.who)
	}
	return impl.Preempt(h, d.who, d.key, d.kind)
}

// inRangeByHand tells which arguments the chapter lets in, apart from the holding.
func (d deed) inRangeByHand() bool {
	person := d.who >= 0 && d.who <= 3
	kind := d.kind >= 1 && d.kind <= 6
	switch d.what {
	case "Register":
		return person && d.key >= 0 && d.key <= 9999
	case "Reserve":
		return person && kind
	case "Preempt":
		return person && kind && d.key >= 1 && d.key <= 9999
	}
	return person
}

// byHand tells the chapter's sentences once more, apart from the program's way.
func (d deed) byHand(h impl.Holding) (impl.Holding, int64) {
	if !holdingOkByHand(h) || !d.inRangeByHand() {
		return impl.Holding{}, 2
	}
	h = cloneHolding(h)
	if d.what == "Register" {
		return registerByHand(h, d.who, d.key), 0
	}
	if h.Keys[d.who] == 0 {
		return h, 1
	}
	switch d.what {
	case "Reserve":
		return reserveByHand(h, d.who, d.kind)
	case "Release":
		if h.Kind > 4 || h.Holder == d.who {
			h.Kind, h.Holder = 0, -1
		}
		return h, 0
	case "Clear":
		return impl.Holding{Keys: make([]int64, 4), Holder: -1, Turn: turnAfter(h.Turn)}, 0
	}
	return preemptByHand(h, d.who, d.key, d.kind)
}

func turnAfter(turn int64) int64 { return (turn + 1) % 1000000001 }

func holderByHand(who, kind int64) int64 {
	if kind == 5 || kind == 6 {
		return -1
	}
	return who
}

func registerByHand(h impl.Holding, who, key int64) impl.Holding {
	h.Keys[who] = key
	h.Turn = turnAfter(h.Turn)
	if key == 0 && (h.Holder == who || slices.Max(h.Keys) == 0) {
		h.Kind, h.Holder = 0, -1
	}
	return h
}

func reserveByHand(h impl.Holding, who, kind int64) (impl.Holding, int64) {
	switch {
	case h.Kind == 0:
		h.Kind, h.Holder = kind, holderByHand(who, kind)
	case h.Kind != kind:
		return h, 1
	case h.Kind <= 4 && h.Holder != who:
		return h, 1
	}
	return h, 0
}

func preemptByHand(h impl.Holding, who, key, kind int64) (impl.Holding, int64) {
	if !slices.Contains(h.Keys, key) {
		return h, 1
	}
	was := cloneHolding(h)
	left := 0
	for i := range h.Keys {
		if i != int(who) && h.Keys[i] == key {
			h.Keys[i] = 0
		}
		if h.Keys[i] != 0 {
			left++
		}
	}
	alone := was.Kind >= 1 && was.Kind <= 4
	byAll := was.Kind >= 5
	if alone && was.Keys[was.Holder] == key || byAll && left == 1 {
		h.Kind, h.Holder = kind, holderByHand(who, kind)
	}
	h.Turn = turnAfter(h.Turn)
	return h, 0
}

// deedsWith are all deeds of these people with these keys and kinds.
func deedsWith(people, keys, kinds []int64) []deed {
	list := []deed{}
	for _, who := range people {
		list = append(list, deed{what: "Release", who: who}, deed{what: "Clear", who: who})
		for _, kind := range kinds {
			list = append(list, deed{what: "Reserve", who: who, kind: kind})
		}
		for _, key := range keys {
			list = append(list, deed{what: "Register", who: who, key: key})
			for _, kind := range kinds {
				list = append(list, deed{what: "Preempt", who: who, key: key, kind: kind})
			}
		}
	}
	return list
}

var fourPeople = []int64{0, 1, 2, 3}

var sixKinds = []int64{1, 2, 3, 4, 5, 6}

// rightDeeds has for each Key of eachHolding one that has it, and some that nobody has there.
func rightDeeds() []deed {
	return slices.DeleteFunc(deedsWith(fourPeople, []int64{0, 1, 11, 22, 33, 44, 55, 9999}, sixKinds), func(d deed) bool { return !d.inRangeByHand() })
}

// deedsOf are the deeds of this name.
func deedsOf(what string) []deed {
	return slices.DeleteFunc(rightDeeds(), func(d deed) bool { return d.what != what })
}

// eachAlikeHolding goes through the right holdings with Keys out of these, in which several have one Key.
func eachAlikeHolding(values []int64, see func(h impl.Holding)) {
	eachBlocks(4, values, func(keys []int64) {
		for kind := int64(0); kind <= 6; kind++ {
			for holder := int64(-1); holder <= 3; holder++ {
				h := impl.Holding{Keys: keys, Kind: kind, Holder: holder, Turn: 3}
				if holdingOkByHand(h) {
					see(h)
				}
			}
		}
	})
}

// wantDeed holds the answer against the given one, and wants the argument as it was.
func wantDeed(t *testing.T, d deed, h impl.Holding, want impl.Holding, code int64) {
	t.Helper()
	before := cloneHolding(h)
	got, gotCode := d.done(h)
	if !sameHolding(got, want) || gotCode != code {
		t.Errorf("%+v of %v = %v, %d, not %v, %d", d, before, got, gotCode, want, code)
	}
	if !sameHolding(h, before) {
		t.Errorf("%+v of %v: it is %v now", d, before, h)
	}
}

func wantDeedByHand(t *testing.T, d deed, h impl.Holding) {
	t.Helper()
	want, code := d.byHand(h)
	wantDeed(t, d, h, want, code)
}

func wantBad(t *testing.T, d deed, h impl.Holding) {
	t.Helper()
	wantDeed(t, d, h, impl.Holding{}, 2)
}

// A deedTest is one sentence of the chapter, written out.
type deedTest struct {
	what string
	d    deed
	h    impl.Holding
	want impl.Holding
	code int64
}

func runDeeds(t *testing.T, tests []deedTest) {
	t.Helper()
	for _, test := range tests {
		t.Run(test.what, func(t *testing.T) { wantDeed(t, test.d, test.h, test.want, test.code) })
	}
}

// held writes a Holding shortly.
func held(kind, holder, turn int64, keys ...int64) impl.Holding {
	return impl.Holding{Keys: keys, Kind: kind, Holder: holder, Turn: turn}
}

func TestActionCodes(t *testing.T) {
	if impl.AnOk != 0 || impl.AnConflict != 1 || impl.AnBad != 2 {
		t.Errorf("AnOk %d, AnConflict %d, AnBad %d", impl.AnOk, impl.AnConflict, impl.AnBad)
	}
}

func TestRegisterWrittenOut(t *testing.T) {
	register := func(who, key int64) deed { return deed{what: "Register", who: who, key: key} }
	runDeeds(t, []deedTest{
		{"the first one", register(1, 5), held(0, -1, 0, 0, 0, 0, 0), held(0, -1, 1, 0, 5, 0, 0), 0},
		{"with the greatest key", register(3, 9999), held(0, -1, 8, 4, 0, 0, 0), held(0, -1, 9, 4, 0, 0, 9999), 0},
		{"with a key that another one has", register(2, 5), held(0, -1, 8, 5, 0, 0, 0), held(0, -1, 9, 5, 0, 5, 0), 0},
		{"another key", register(0, 6), held(0, -1, 8, 5, 0, 0, 0), held(0, -1, 9, 6, 0, 0, 0), 0},
		{"the same key again", register(0, 5), held(0, -1, 8, 5, 0, 0, 0), held(0, -1, 9, 5, 0, 0, 0), 0},
		{"another key of who holds it alone", register(0, 6), held(2, 0, 8, 5, 7, 0, 0), held(2, 0, 9, 6, 7, 0, 0), 0},
		{"beside who holds it alone", register(2, 6), held(1, 0, 8, 5, 7, 0, 0), held(1, 0, 9, 5, 7, 6, 0), 0},
		{"beside those who hold it", register(2, 6), held(5, -1, 8, 5, 7, 0, 0), held(5, -1, 9, 5, 7, 6, 0), 0},
		{"another key of the only one for whom it is held", register(1, 6), held(6, -1, 8, 0, 7, 0, 0), held(6, -1, 9, 0, 6, 0, 0), 0},
		{"key 0 of who held it alone, KiWrite", register(0, 0), held(1, 0, 8, 5, 7, 0, 0), held(0, -1, 9, 0, 7, 0, 0), 0},
		{"key 0 of who held it alone, KiAll", register(1, 0), held(2, 1, 8, 5, 7, 0, 0), held(0, -1, 9, 5, 0, 0, 0), 0},
		{"key 0 of who held it alone, KiRegWrite", register(0, 0), held(3, 0, 8, 5, 7, 0, 0), held(0, -1, 9, 0, 7, 0, 0), 0},
		{"key 0 of who held it alone, KiRegAll", register(3, 0), held(4, 3, 8, 5, 7, 0, 6), held(0, -1, 9, 5, 7, 0, 0), 0},
		{"key 0 of who held it alone and was the last", register(2, 0), held(4, 2, 8, 0, 0, 6, 0), held(0, -1, 9, 0, 0, 0, 0), 0},
		{"key 0 of one who did not hold it", register(1, 0), held(1, 0, 8, 5, 7, 0, 0), held(1, 0, 9, 5, 0, 0, 0), 0},
		{"key 0 of one with the Holder's key", register(1, 0), held(3, 0, 8, 5, 5, 0, 0), held(3, 0, 9, 5, 0, 0, 0), 0},
		{"key 0 of one of those for whom it is held", register(1, 0), held(5, -1, 8, 5, 7, 0, 0), held(5, -1, 9, 5, 0, 0, 0), 0},
		{"key 0 of the last one, KiAllWrite", register(0, 0), held(5, -1, 8, 5, 0, 0, 0), held(0, -1, 9, 0, 0, 0, 0), 0},
		{"key 0 of the last one, KiAllBoth", register(3, 0), held(6, -1, 8, 0, 0, 0, 5), held(0, -1, 9, 0, 0, 0, 0), 0},
		{"key 0 of the last one, nothing held", register(3, 0), held(0, -1, 8, 0, 0, 0, 5), held(0, -1, 9, 0, 0, 0, 0), 0},
		{"key 0 of one who is not registered, nobody is", register(3, 0), held(0, -1, 8, 0, 0, 0, 0), held(0, -1, 9, 0, 0, 0, 0), 0},
		{"key 0 of one who is not registered, held alone", register(3, 0), held(2, 0, 8, 5, 0, 0, 0), held(2, 0, 9, 5, 0, 0, 0), 0},
		{"key 0 of one who is not registered, held by all", register(3, 0), held(6, -1, 8, 5, 0, 0, 0), held(6, -1, 9, 5, 0, 0, 0), 0},
		{"Turn comes to MaxTurn", register(1, 5), held(0, -1, 999999999, 0, 0, 0, 0), held(0, -1, 1000000000, 0, 5, 0, 0), 0},
		{"after MaxTurn comes 0", register(1, 5), held(1, 0, 1000000000, 4, 0, 0, 0), held(1, 0, 0, 4, 5, 0, 0), 0},
		{"after MaxTurn comes 0 with key 0", register(0, 0), held(1, 0, 1000000000, 4, 0, 0, 0), held(0, -1, 0, 0, 0, 0, 0), 0},
	})
}

func TestReserveWrittenOut(t *testing.T) {
	reserve := func(who, kind int64) deed { return deed{what: "Reserve", who: who, kind: kind} }
	runDeeds(t, []deedTest{
		{"nothing held, KiWrite", reserve(0, 1), held(0, -1, 8, 5, 7, 0, 0), held(1, 0, 8, 5, 7, 0, 0), 0},
		{"nothing held, KiAll", reserve(1, 2), held(0, -1, 8, 5, 7, 0, 0), held(2, 1, 8, 5, 7, 0, 0), 0},
		{"nothing held, KiRegWrite", reserve(1, 3), held(0, -1, 8, 5, 7, 0, 0), held(3, 1, 8, 5, 7, 0, 0), 0},
		{"nothing held, KiRegAll", reserve(0, 4), held(0, -1, 8, 5, 7, 0, 0), held(4, 0, 8, 5, 7, 0, 0), 0},
		{"nothing held, KiAllWrite", reserve(0, 5), held(0, -1, 8, 5, 7, 0, 0), held(5, -1, 8, 5, 7, 0, 0), 0},
		{"nothing held, KiAllBoth", reserve(1, 6), held(0, -1, 8, 5, 7, 0, 0), held(6, -1, 8, 5, 7, 0, 0), 0},
		{"nothing held, by one who is not registered", reserve(2, 1), held(0, -1, 8, 5, 7, 0, 0), held(0, -1, 8, 5, 7, 0, 0), 1},
		{"nothing held, for all, by one who is not registered", reserve(2, 5), held(0, -1, 8, 5, 7, 0, 0), held(0, -1, 8, 5, 7, 0, 0), 1},
		{"held by who with that kind", reserve(1, 2), held(2, 1, 8, 5, 7, 0, 0), held(2, 1, 8, 5, 7, 0, 0), 0},
		{"held by who with another kind", reserve(1, 1), held(2, 1, 8, 5, 7, 0, 0), held(2, 1, 8, 5, 7, 0, 0), 1},
		{"held by who alone, wanted for all", reserve(1, 5), held(3, 1, 8, 5, 7, 0, 0), held(3, 1, 8, 5, 7, 0, 0), 1},
		{"held by another one alone with that kind", reserve(0, 2), held(2, 1, 8, 5, 7, 0, 0), held(2, 1, 8, 5, 7, 0, 0), 1},
		{"held by another one alone with another kind", reserve(0, 4), held(2, 1, 8, 5, 7, 0, 0), held(2, 1, 8, 5, 7, 0, 0), 1},
		{"held by another one with the same key", reserve(0, 3), held(3, 1, 8, 7, 7, 0, 0), held(3, 1, 8, 7, 7, 0, 0), 1},
		{"held by another one for the registered", reserve(0, 4), held(4, 1, 8, 5, 7, 0, 0), held(4, 1, 8, 5, 7, 0, 0), 1},
		{"held by all with that kind, KiAllWrite", reserve(0, 5), held(5, -1, 8, 5, 7, 0, 0), held(5, -1, 8, 5, 7, 0, 0), 0},
		{"held by all with that kind, KiAllBoth", reserve(1, 6), held(6, -1, 8, 5, 7, 0, 0), held(6, -1, 8, 5, 7, 0, 0), 0},
		{"held by all with the other such kind", reserve(1, 6), held(5, -1, 8, 5, 7, 0, 0), held(5, -1, 8, 5, 7, 0, 0), 1},
		{"held by all, wanted alone", reserve(0, 1), held(6, -1, 8, 5, 7, 0, 0), held(6, -1, 8, 5, 7, 0, 0), 1},
		{"held by the only one for all, wanted alone", reserve(0, 1), held(6, -1, 8, 5, 0, 0, 0), held(6, -1, 8, 5, 0, 0, 0), 1},
		{"held by all with that kind, by one who is not registered", reserve(3, 6), held(6, -1, 8, 5, 7, 0, 0), held(6, -1, 8, 5, 7, 0, 0), 1},
		{"Turn stays at MaxTurn", reserve(0, 6), held(0, -1, 1000000000, 5, 7, 0, 0), held(6, -1, 1000000000, 5, 7, 0, 0), 0},
	})
}

func TestReleaseWrittenOut(t *testing.T) {
	release := func(who int64) deed { return deed{what: "Release", who: who} }
	runDeeds(t, []deedTest{
		{"held by who, KiWrite", release(0), held(1, 0, 8, 5, 7, 0, 0), held(0, -1, 8, 5, 7, 0, 0), 0},
		{"held by who, KiAll", release(1), held(2, 1, 8, 5, 7, 0, 0), held(0, -1, 8, 5, 7, 0, 0), 0},
		{"held by who, KiRegWrite", release(0), held(3, 0, 8, 5, 7, 0, 0), held(0, -1, 8, 5, 7, 0, 0), 0},
		{"held by who, KiRegAll", release(1), held(4, 1, 8, 5, 7, 0, 0), held(0, -1, 8, 5, 7, 0, 0), 0},
		{"held by all, KiAllWrite", release(0), held(5, -1, 8, 5, 7, 0, 0), held(0, -1, 8, 5, 7, 0, 0), 0},
		{"held by all, KiAllBoth", release(1), held(6, -1, 8, 5, 7, 0, 0), held(0, -1, 8, 5, 7, 0, 0), 0},
		{"held by another one, KiAll", release(1), held(2, 0, 8, 5, 7, 0, 0), held(2, 0, 8, 5, 7, 0, 0), 0},
		{"held by another one, KiRegAll", release(1), held(4, 0, 8, 5, 7, 0, 0), held(4, 0, 8, 5, 7, 0, 0), 0},
		{"held by another one with the same key", release(1), held(1, 0, 8, 5, 5, 0, 0), held(1, 0, 8, 5, 5, 0, 0), 0},
		{"nothing held", release(1), held(0, -1, 8, 5, 7, 0, 0), held(0, -1, 8, 5, 7, 0, 0), 0},
		{"held by another one, by one who is not registered", release(2), held(1, 0, 8, 5, 7, 0, 0), held(1, 0, 8, 5, 7, 0, 0), 1},
		{"held by all, by one who is not registered", release(2), held(6, -1, 8, 5, 7, 0, 0), held(6, -1, 8, 5, 7, 0, 0), 1},
		{"nothing held, by one who is not registered", release(3), held(0, -1, 8, 5, 7, 0, 0), held(0, -1, 8, 5, 7, 0, 0), 1},
		{"nobody registered", release(0), held(0, -1, 8, 0, 0, 0, 0), held(0, -1, 8, 0, 0, 0, 0), 1},
		{"Turn stays at MaxTurn", release(0), held(6, -1, 1000000000, 5, 7, 0, 0), held(0, -1, 1000000000, 5, 7, 0, 0), 0},
	})
}

func TestClearWrittenOut(t *testing.T) {
	clears := func(who int64) deed { return deed{what: "Clear", who: who} }
	runDeeds(t, []deedTest{
		{"nothing held", clears(1), held(0, -1, 8, 5, 7, 0, 0), held(0, -1, 9, 0, 0, 0, 0), 0},
		{"held by who", clears(1), held(2, 1, 8, 5, 7, 0, 6), held(0, -1, 9, 0, 0, 0, 0), 0},
		{"held by another one", clears(0), held(2, 1, 8, 5, 7, 0, 6), held(0, -1, 9, 0, 0, 0, 0), 0},
		{"held by all", clears(3), held(6, -1, 8, 5, 7, 0, 6), held(0, -1, 9, 0, 0, 0, 0), 0},
		{"the only one", clears(3), held(4, 3, 8, 0, 0, 0, 6), held(0, -1, 9, 0, 0, 0, 0), 0},
		{"by one who is not registered", clears(2), held(2, 1, 8, 5, 7, 0, 6), held(2, 1, 8, 5, 7, 0, 6), 1},
		{"nobody registered", clears(2), held(0, -1, 8, 0, 0, 0, 0), held(0, -1, 8, 0, 0, 0, 0), 1},
		{"after MaxTurn comes 0", clears(0), held(1, 0, 1000000000, 5, 7, 0, 0), held(0, -1, 0, 0, 0, 0, 0), 0},
		{"told AnConflict, Turn stays at MaxTurn", clears(3), held(1, 0, 1000000000, 5, 7, 0, 0), held(1, 0, 1000000000, 5, 7, 0, 0), 1},
	})
}

func TestPreemptOfWhatIsHeldAlone(t *testing.T) {
	preempt := func(who, key, kind int64) deed { return deed{what: "Preempt", who: who, key: key, kind: kind} }
	runDeeds(t, []deedTest{
		{"by one with that key, KiWrite", preempt(1, 5, 2), held(1, 0, 8, 5, 7, 0, 0), held(2, 1, 9, 0, 7, 0, 0), 0},
		{"by one with that key, KiAll", preempt(1, 5, 1), held(2, 0, 8, 5, 7, 0, 0), held(1, 1, 9, 0, 7, 0, 0), 0},
		{"by one with that key, KiRegWrite", preempt(0, 6, 4), held(3, 3, 8, 5, 7, 0, 6), held(4, 0, 9, 5, 7, 0, 0), 0},
		{"by one with that key, KiRegAll", preempt(0, 6, 3), held(4, 3, 8, 5, 7, 0, 6), held(3, 0, 9, 5, 7, 0, 0), 0},
		{"by one with that key, the same kind", preempt(1, 5, 1), held(1, 0, 8, 5, 7, 0, 0), held(1, 1, 9, 0, 7, 0, 0), 0},
		{"by one with that key, then KiAllWrite", preempt(1, 5, 5), held(1, 0, 8, 5, 7, 0, 6), held(5, -1, 9, 0, 7, 0, 6), 0},
		{"by one with that key, then KiAllBoth", preempt(1, 5, 6), held(1, 0, 8, 5, 7, 0, 6), held(6, -1, 9, 0, 7, 0, 6), 0},
		{"by one with that key, another has it too", preempt(1, 5, 2), held(1, 0, 8, 5, 7, 5, 6), held(2, 1, 9, 0, 7, 0, 6), 0},
		{"by one with that key, who has it too", preempt(1, 5, 2), held(1, 0, 8, 5, 5, 0, 6), held(2, 1, 9, 0, 5, 0, 6), 0},
		{"by who with that key", preempt(0, 5, 2), held(1, 0, 8, 5, 7, 0, 0), held(2, 0, 9, 5, 7, 0, 0), 0},
		{"by who with that key, then for all", preempt(0, 5, 6), held(1, 0, 8, 5, 7, 0, 0), held(6, -1, 9, 5, 7, 0, 0), 0},
		{"by who with that key, another has it too", preempt(0, 5, 2), held(3, 0, 8, 5, 7, 0, 5), held(2, 0, 9, 5, 7, 0, 0), 0},
		{"by who with that key, nobody beside", preempt(2, 5, 5), held(3, 2, 8, 0, 0, 5, 0), held(5, -1, 9, 0, 0, 5, 0), 0},
		{"by one with another key", preempt(1, 6, 2), held(1, 0, 8, 5, 7, 6, 0), held(1, 0, 9, 5, 7, 0, 0), 0},
		{"by one with another key, of who's own", preempt(1, 7, 2), held(1, 0, 8, 5, 7, 6, 0), held(1, 0, 9, 5, 7, 6, 0), 0},
		{"by who with another key", preempt(1, 6, 2), held(1, 1, 8, 5, 7, 6, 0), held(1, 1, 9, 5, 7, 0, 0), 0},
		{"by who with another key, nobody beside", preempt(1, 6, 2), held(4, 1, 8, 0, 7, 6, 6), held(4, 1, 9, 0, 7, 0, 0), 0},
		{"by one who is not registered", preempt(3, 5, 2), held(1, 0, 8, 5, 7, 6, 0), held(1, 0, 8, 5, 7, 6, 0), 1},
		{"nobody has this key", preempt(0, 8, 2), held(1, 0, 8, 5, 7, 6, 0), held(1, 0, 8, 5, 7, 6, 0), 1},
		{"key 1, that nobody has", preempt(0, 1, 2), held(1, 0, 8, 5, 7, 6, 0), held(1, 0, 8, 5, 7, 6, 0), 1},
		{"key 1, that one has", preempt(0, 1, 2), held(1, 1, 8, 5, 1, 6, 0), held(2, 0, 9, 5, 0, 6, 0), 0},
		{"key MaxKey", preempt(0, 9999, 2), held(1, 1, 8, 5, 9999, 6, 0), held(2, 0, 9, 5, 0, 6, 0), 0},
		{"after MaxTurn comes 0", preempt(1, 5, 2), held(1, 0, 1000000000, 5, 7, 0, 0), held(2, 1, 0, 0, 7, 0, 0), 0},
		{"told AnConflict, Turn stays at MaxTurn", preempt(1, 8, 2), held(1, 0, 1000000000, 5, 7, 0, 0), held(1, 0, 1000000000, 5, 7, 0, 0), 1},
	})
}

func TestPreemptOfWhatIsHeldByAllOrNobody(t *testing.T) {
	preempt := func(who, key, kind int64) deed { return deed{what: "Preempt", who: who, key: key, kind: kind} }
	runDeeds(t, []deedTest{
		{"somebody is left beside who", preempt(1, 5, 2), held(5, -1, 8, 5, 7, 6, 0), held(5, -1, 9, 0, 7, 6, 0), 0},
		{"somebody is left beside who, the other such kind", preempt(1, 5, 5), held(6, -1, 8, 5, 7, 6, 0), held(6, -1, 9, 0, 7, 6, 0), 0},
		{"who's own key, somebody with another one", preempt(1, 7, 2), held(6, -1, 8, 5, 7, 0, 0), held(6, -1, 9, 5, 7, 0, 0), 0},
		{"nobody is left beside who, KiAllWrite", preempt(1, 5, 2), held(5, -1, 8, 5, 7, 0, 0), held(2, 1, 9, 0, 7, 0, 0), 0},
		{"nobody is left beside who, KiAllBoth", preempt(1, 5, 3), held(6, -1, 8, 5, 7, 5, 5), held(3, 1, 9, 0, 7, 0, 0), 0},
		{"nobody is left beside who, then for all", preempt(1, 5, 6), held(5, -1, 8, 5, 7, 0, 0), held(6, -1, 9, 0, 7, 0, 0), 0},
		{"who's own key, nobody was beside who", preempt(1, 7, 1), held(5, -1, 8, 0, 7, 0, 0), held(1, 1, 9, 0, 7, 0, 0), 0},
		{"who's own key, that the others had", preempt(1, 7, 4), held(6, -1, 8, 7, 7, 7, 7), held(4, 1, 9, 0, 7, 0, 0), 0},
		{"held by all, by one who is not registered", preempt(3, 5, 2), held(6, -1, 8, 5, 7, 0, 0), held(6, -1, 8, 5, 7, 0, 0), 1},
		{"held by all, nobody has this key", preempt(1, 8, 2), held(6, -1, 8, 5, 7, 0, 0), held(6, -1, 8, 5, 7, 0, 0), 1},
		{"nothing held", preempt(1, 5, 2), held(0, -1, 8, 5, 7, 6, 0), held(0, -1, 9, 0, 7, 6, 0), 0},
		{"nothing held, nobody is left beside who", preempt(1, 5, 2), held(0, -1, 8, 5, 7, 0, 0), held(0, -1, 9, 0, 7, 0, 0), 0},
		{"nothing held, who's own key", preempt(1, 7, 6), held(0, -1, 8, 0, 7, 0, 0), held(0, -1, 9, 0, 7, 0, 0), 0},
		{"nothing held, by one who is not registered", preempt(3, 5, 2), held(0, -1, 8, 5, 7, 0, 0), held(0, -1, 8, 5, 7, 0, 0), 1},
		{"nobody registered", preempt(0, 5, 2), held(0, -1, 8, 0, 0, 0, 0), held(0, -1, 8, 0, 0, 0, 0), 1},
		{"after MaxTurn comes 0", preempt(1, 5, 2), held(6, -1, 1000000000, 5, 7, 6, 0), held(6, -1, 0, 0, 7, 6, 0), 0},
	})
}

// Only who is registered changes what is held.
func TestWhoIsNotRegisteredChangesNothing(t *testing.T) {
	deeds := slices.DeleteFunc(rightDeeds(), func(d deed) bool { return d.what == "Register" })
	eachHolding(func(h impl.Holding, registered [4]bool, _ [4]bool) {
		for _, turn := range []int64{0, 3, 1000000000} {
			h.Turn = turn
			for _, d := range deeds {
				if !registered[d.who] {
					wantDeed(t, d, h, h, 1)
				}
			}
		}
	})
}

// One that is not registered comes to hold nothing by Register but what is held by all.
func TestRegisterTakesNothing(t *testing.T) {
	eachHolding(func(h impl.Holding, registered [4]bool, _ [4]bool) {
		for _, d := range deedsOf("Register") {
			got, _ := d.done(h)
			if (d.key != 0 || !registered[d.who]) && (got.Kind != h.Kind || got.Holder != h.Holder) {
				t.Errorf("%+v of %v = %v", d, h, got)
			}
		}
	})
}

// Nobody is unregistered, nor registered, by Reserve and Release.
func TestReserveAndReleaseLeaveTheKeys(t *testing.T) {
	deeds := append(deedsOf("Reserve"), deedsOf("Release")...)
	eachHolding(func(h impl.Holding, _ [4]bool, _ [4]bool) {
		for _, d := range deeds {
			if got, _ := d.done(h); !slices.Equal(got.Keys, h.Keys) {
				t.Errorf("%+v of %v = %v", d, h, got)
			}
		}
	})
}

func TestRegisterChangesOneKey(t *testing.T) {
	eachHolding(func(h impl.Holding, _ [4]bool, _ [4]bool) {
		for _, d := range deedsOf("Register") {
			got, code := d.done(h)
			want := slices.Clone(h.Keys)
			want[d.who] = d.key
			if !slices.Equal(got.Keys, want) || code != impl.AnOk {
				t.Errorf("%+v of %v = %v, %d", d, h, got, code)
			}
		}
	})
}

// By Preempt just the others that have the key are registered no more.
func TestPreemptTakesTheKeyFromTheOthers(t *testing.T) {
	wantKeys := func(d deed, h impl.Holding) {
		got, code := d.done(h)
		for i, key := range h.Keys {
			want := key
			if code == impl.AnOk && key == d.key && int64(i) != d.who {
				want = 0
			}
			if got.Keys[i] != want {
				t.Errorf("%+v of %v = %v", d, h, got)
			}
		}
		if ok := h.Keys[d.who] != 0 && slices.Contains(h.Keys, d.key); ok != (code == impl.AnOk) {
			t.Errorf("%+v of %v: %d", d, h, code)
		}
	}
	for _, d := range deedsOf("Preempt") {
		eachHolding(func(h impl.Holding, _ [4]bool, _ [4]bool) { wantKeys(d, h) })
	}
	deeds := deedsWith(fourPeople, []int64{5, 6, 7}, sixKinds)
	deeds = slices.DeleteFunc(deeds, func(d deed) bool { return d.what != "Preempt" })
	eachAlikeHolding([]int64{0, 5, 6}, func(h impl.Holding) {
		for _, d := range deeds {
			wantKeys(d, h)
		}
	})
}

func TestAfterClearNobodyIsRegistered(t *testing.T) {
	eachHolding(func(h impl.Holding, registered [4]bool, _ [4]bool) {
		for _, turn := range rightTurns {
			h.Turn = turn
			for _, who := range fourPeople {
				if registered[who] {
					want := impl.Holding{Keys: []int64{0, 0, 0, 0}, Holder: -1, Turn: turnAfter(turn)}
					wantDeed(t, deed{what: "Clear", who: who}, h, want, 0)
				}
			}
		}
	})
}

// Turn goes on by Register, Clear and Preempt where they are told AnOk, and else stays.
func TestTurnGoesOn(t *testing.T) {
	next := map[int64]int64{0: 1, 1: 2, 2: 3, 999999999: 1000000000, 1000000000: 0}
	eachHolding(func(h impl.Holding, _ [4]bool, _ [4]bool) {
		for _, turn := range rightTurns {
			h.Turn = turn
			for _, d := range rightDeeds() {
				got, code := d.done(h)
				want := turn
				if code == impl.AnOk && d.what != "Reserve" && d.what != "Release" {
					want = next[turn]
				}
				if got.Turn != want {
					t.Errorf("%+v of %v: Turn is %d", d, h, got.Turn)
				}
			}
		}
	})
}

// Every answer but that of AnBad is right, and that of AnConflict as it was.
func TestAnswersAreRight(t *testing.T) {
	eachHolding(func(h impl.Holding, _ [4]bool, _ [4]bool) {
		h.Turn = 3
		for _, d := range rightDeeds() {
			got, code := d.done(h)
			if !impl.HoldingOk(got) || code != impl.AnOk && code != impl.AnConflict {
				t.Errorf("%+v of %v = %v, %d", d, h, got, code)
			}
			if code == impl.AnConflict && !sameHolding(got, h) {
				t.Errorf("%+v of %v = %v, and AnConflict", d, h, got)
			}
		}
	})
}

func TestEachDeedOfEachHolding(t *testing.T) {
	deeds := rightDeeds()
	eachHolding(func(h impl.Holding, _ [4]bool, _ [4]bool) {
		h.Turn = 3
		for _, d := range deeds {
			wantDeedByHand(t, d, h)
		}
	})
}

func TestEachDeedOfHoldingsWithAlikeKeys(t *testing.T) {
	deeds := deedsWith(fourPeople, []int64{-1, 0, 1, 5, 9999, 10000}, []int64{0, 1, 2, 3, 4, 5, 6, 7})
	eachAlikeHolding([]int64{0, 1, 5, 9999}, func(h impl.Holding) {
		for _, d := range deeds {
			wantDeedByHand(t, d, h)
		}
	})
}

func TestDeedsOfWhatIsNoHolding(t *testing.T) {
	deeds := deedsWith([]int64{-1, 0, 3, 4}, []int64{0, 5, 10000}, []int64{0, 1, 6})
	for _, b := range breaches() {
		for _, d := range deeds {
			wantBad(t, d, b.broken)
		}
	}
	for _, d := range rightDeeds() {
		wantBad(t, d, impl.Holding{})
		wantBad(t, d, held(0, 0, 0, 0, 0, 0, 0))
		wantBad(t, d, held(0, -1, 0, 11, 22, 33))
		wantBad(t, d, held(0, -1, 0, 11, 22, 33, 44, 0))
	}
}

// AnBad comes ahead of AnConflict: in many of these holdings who is not registered, or it is held by another one.
func TestDeedsOfNoPerson(t *testing.T) {
	deeds := slices.DeleteFunc(deedsWith(notPeople, []int64{0, 11, 9999}, []int64{1, 5}), func(d deed) bool { return d.what == "Preempt" && d.key == 0 })
	eachHolding(func(h impl.Holding, _ [4]bool, _ [4]bool) {
		for _, d := range deeds {
			wantBad(t, d, h)
		}
	})
	for bit := 2; bit < 64; bit++ {
		for low := range int64(4) {
			for _, d := range deedsWith([]int64{int64(uint64(1)<<bit) | low}, []int64{11}, []int64{1, 6}) {
				wantBad(t, d, held(1, low, 3, 11, 11, 11, 11))
				wantBad(t, d, held(6, -1, 3, 11, 11, 11, 11))
			}
		}
	}
}

func TestDeedsWithKeysOutOfRange(t *testing.T) {
	eachHolding(func(h impl.Holding, _ [4]bool, _ [4]bool) {
		for _, who := range fourPeople {
			for _, key := range notKeys {
				wantBad(t, deed{what: "Register", who: who, key: key}, h)
				wantBad(t, deed{what: "Preempt", who: who, key: key, kind: 1}, h)
				wantBad(t, deed{what: "Preempt", who: who, key: key, kind: 6}, h)
			}
			for _, kind := range sixKinds {
				wantBad(t, deed{what: "Preempt", who: who, key: 0, kind: kind}, h)
			}
		}
	})
}

func TestDeedsWithNoKind(t *testing.T) {
	eachHolding(func(h impl.Holding, _ [4]bool, _ [4]bool) {
		for _, who := range fourPeople {
			for _, kind := range append([]int64{0}, notKinds...) {
				wantBad(t, deed{what: "Reserve", who: who, kind: kind}, h)
				wantBad(t, deed{what: "Preempt", who: who, key: 11, kind: kind}, h)
				wantBad(t, deed{what: "Preempt", who: who, key: 55, kind: kind}, h)
			}
		}
	})
}

func TestBadAheadOfConflictWrittenOut(t *testing.T) {
	strange := held(1, 0, 8, 5, 0, 0, 0)
	tests := []deed{
		{what: "Reserve", who: 1, kind: 0},
		{what: "Reserve", who: 1, kind: 7},
		{what: "Reserve", who: -1, kind: 1},
		{what: "Reserve", who: 4, kind: 1},
		{what: "Release", who: -1},
		{what: "Release", who: 4},
		{what: "Clear", who: -1},
		{what: "Clear", who: 4},
		{what: "Preempt", who: 1, key: 0, kind: 1},
		{what: "Preempt", who: 1, key: -1, kind: 1},
		{what: "Preempt", who: 1, key: 10000, kind: 1},
		{what: "Preempt", who: 1, key: 5, kind: 0},
		{what: "Preempt", who: 1, key: 5, kind: 7},
		{what: "Preempt", who: 0, key: 6, kind: 0},
		{what: "Preempt", who: 0, key: 6, kind: 7},
		{what: "Preempt", who: 4, key: 6, kind: 1},
		{what: "Register", who: -1, key: 5},
		{what: "Register", who: 4, key: 5},
		{what: "Register", who: 1, key: -1},
		{what: "Register", who: 1, key: 10000},
	}
	for _, d := range tests {
		wantBad(t, d, strange)
	}
}

func thrownHolding(thrown *rand.Rand) impl.Holding {
	h := impl.Holding{
		Keys:   make([]int64, 4),
		Kind:   thrownNear(thrown, 1, 2, 3, 4, 5),
		Holder: thrownNear(thrown, 0, 1, 2),
		Turn:   thrownNear(thrown, 1, 5000, impl.MaxTurn-1, impl.MaxTurn-1),
	}
	for who := range h.Keys {
		h.Keys[who] = thrown.Int63n(4)
	}
	if h.Kind == 0 || h.Kind > 4 {
		h.Holder = -1
	}
	if thrown.Intn(20) == 0 {
		h.Keys = make([]int64, thrown.Intn(9))
	}
	return h
}

func thrownDeed(thrown *rand.Rand) deed {
	names := []string{"Register", "Reserve", "Release", "Clear", "Preempt"}
	return deed{
		what: names[thrown.Intn(len(names))],
		who:  thrownNear(thrown, 1, 2, 1, 2, 0, 3),
		key:  thrownNear(thrown, 1, 1, 2, 3, 9999),
		kind: thrownNear(thrown, 1, 2, 3, 4, 5, 6),
	}
}

func TestDeedsThrown(t *testing.T) {
	thrown := rand.New(rand.NewSource(9))
	told := map[int64]int{}
	for range 200000 {
		h, d := thrownHolding(thrown), thrownDeed(thrown)
		_, code := d.byHand(h)
		told[code]++
		wantDeedByHand(t, d, h)
	}
	for code := range int64(3) {
		if told[code] < 5000 {
			t.Errorf("%d of what was thrown are told %d", told[code], code)
		}
	}
}

// One deed after the other from a new holding on: it stays right, and as told by hand.
func TestDeedsInARow(t *testing.T) {
	thrown := rand.New(rand.NewSource(99))
	for range 300 {
		h := impl.NewHolding()
		h.Turn = thrown.Int63n(2) * (impl.MaxTurn - 20)
		for range 100 {
			d := thrownDeed(thrown)
			wantDeedByHand(t, d, h)
			got, code := d.done(h)
			if code == impl.AnBad {
				continue
			}
			if !impl.HoldingOk(got) {
				t.Fatalf("%+v of %v = %v", d, h, got)
			}
			h = got
		}
	}
}

// The five functions leave the Keys, and what lies behind them, as they were, and hand out other memory.
func TestDeedsLeaveTheirArgument(t *testing.T) {
	deeds := deedsWith([]int64{-1, 0, 1, 2, 3, 4}, []int64{0, 11, 55}, []int64{1, 6})
	leaves := func(h impl.Holding) {
		sameArgs(t, "Holding", [][]int64{h.Keys}, func(in [][]int64) {
			h.Keys = in[0]
			for _, d := range deeds {
				got, _ := d.done(h)
				spoil(got.Keys)
			}
		})
	}
	eachHolding(func(h impl.Holding, _ [4]bool, _ [4]bool) { leaves(h) })
	for _, keys := range [][]int64{nil, {}, {11}, {11, 22, 33}, {11, 22, 33, 44, 55}, {11, 22, 33, -1}, {10000, 0, 0, 0}} {
		for kind := int64(-1); kind <= 7; kind++ {
			leaves(impl.Holding{Keys: keys, Kind: kind, Holder: -1})
			leaves(impl.Holding{Keys: keys, Kind: kind, Holder: 0})
		}
	}
}

// What was answered once is not written over by a later call, nor is a later answer spoilt by it.
func TestAnswersOfDeedsShareNothing(t *testing.T) {
	deeds := rightDeeds()
	eachHolding(func(h impl.Holding, _ [4]bool, _ [4]bool) {
		for _, d := range deeds {
			first, _ := d.done(h)
			second, _ := d.done(h)
			want := cloneHolding(second)
			spoil(first.Keys)
			if again, _ := d.done(h); !sameHolding(second, want) || !sameHolding(again, want) {
				t.Errorf("%+v of %v = %v, then %v", d, h, second, again)
			}
		}
	})
}

// The spare room behind the Keys tells nothing: three with a fourth behind them are three.
func TestDeedsOfKeysWithRoomBehindThem(t *testing.T) {
	whole := []int64{5, 6, 5, 8, 9, 9}
	deeds := deedsWith(fourPeople, []int64{0, 5, 9}, []int64{1, 6})
	for n := range 6 {
		for kind := int64(0); kind <= 6; kind++ {
			for holder := int64(-1); holder <= 5; holder++ {
				for _, d := range deeds {
					wantDeedByHand(t, d, impl.Holding{Keys: whole[:n], Kind: kind, Holder: holder})
				}
			}
		}
	}
}
