package tests

import (
	"fmt"
	"math"
	"math/rand"
	"slices"
	"strings"
	"testing"

	"loop.example/g00354/impl"
)

func cmdEvent(who int64, bytes string, status int64, text string) impl.Event {
	return impl.Event{Kind: impl.EvCmd, Who: who, Bytes: bytes, Answer: impl.Answer{Status: status, Text: text}}
}

// newStoreByHand is of blocks in range.
func newStoreByHand(blocks int64) impl.Store {
	return storeOf(diskOf(make([]int64, blocks), make([]int64, blocks)), held(0, -1, 0, 0, 0, 0, 0))
}

// heardByStore is one right Event: the store behind it, and what is told of a command.
func heardByStore(s impl.Store, e impl.Event) (impl.Store, impl.Answer) {
	s = cloneStore(s)
	switch e.Kind {
	case 2:
		left := lostByHand(s.Disk, e.Set)
		s.Disk = diskOf(left, slices.Clone(left))
		return s, impl.Answer{}
	case 3:
		s.Disk = flushedByHand(s.Disk)
		return s, impl.Answer{}
	}
	c, code := readCmdByHand(e.Bytes)
	if code > 0 {
		return s, impl.Answer{Status: 4, Text: fmt.Sprint(code)}
	}
	return storedByHand(s, e.Who, c)
}

// replayedByHand tells the chapter a second time. A store is in its hands while it goes on.
func replayedByHand(blocks int64, list []impl.Event) (impl.Store, bool) {
	if !between(blocks, 1, 8) || slices.ContainsFunc(list, func(e impl.Event) bool { return !eventOkByHand(e) }) {
		return impl.Store{}, false
	}
	s, others := newStoreByHand(blocks), 0
	for _, e := range list {
		after, answer := heardByStore(s, e)
		if answer != e.Answer {
			others++
		}
		s = after
	}
	return s, others == 0
}

// A history is of Events with the Answers that belong to them, and has the store that comes of it.
type history struct {
	blocks int64
	s      impl.Store
	list   []impl.Event
}

func newHistory(blocks int64) *history {
	return &history{blocks: blocks, s: newStoreByHand(blocks)}
}

// adds fills the Answer in.
func (h *history) adds(list ...impl.Event) *history {
	for _, e := range list {
		h.s, e.Answer = heardByStore(h.s, e)
		h.list = append(h.list, e)
	}
	return h
}

func (h *history) asks(who int64, cmds ...impl.Cmd) *history {
	for _, c := range cmds {
		h.adds(cmdEvent(who, bytesOf(c), 0, ""))
	}
	return h
}

// showEvents tells of a long list no more than its end.
func showEvents(list []impl.Event) string {
	return fmt.Sprintf("%d Events ..%+v", len(list), list[max(0, len(list)-6):])
}

// wantReplayed holds the answer against the given one, and wants the list as it was.
func wantReplayed(t *testing.T, blocks int64, list []impl.Event, want impl.Store, same bool) {
	t.Helper()
	before := slices.Clone(list)
	got, is := impl.Replayed(blocks, list)
	if is != same || !sameStore(got, want) {
		t.Errorf("Replayed(%d, %s) = %v, %v, not %v, %v", blocks, showEvents(list), got, is, want, same)
	}
	if !slices.Equal(list, before) {
		t.Errorf("Replayed(%d, %s): it is %s now", blocks, showEvents(before), showEvents(list))
	}
}

func wantReplayedByHand(t *testing.T, blocks int64, list []impl.Event) (same bool) {
	t.Helper()
	want, same := replayedByHand(blocks, list)
	wantReplayed(t, blocks, list, want, same)
	return same
}

func (h *history) wantReplayed(t *testing.T) {
	t.Helper()
	wantReplayed(t, h.blocks, h.list, h.s, true)
}

func wantNotReplayed(t *testing.T, blocks int64, list []impl.Event) {
	t.Helper()
	wantReplayed(t, blocks, list, impl.Store{}, false)
}

func TestReplayedOfNoEvents(t *testing.T) {
	for blocks := int64(1); blocks <= 8; blocks++ {
		for _, list := range [][]impl.Event{nil, {}, eventsOf(3)[:0]} {
			wantReplayed(t, blocks, list, newStoreByHand(blocks), true)
			made, _ := impl.NewStore(blocks)
			wantReplayed(t, blocks, list, made, true)
		}
	}
	for _, blocks := range append([]int64{0}, notCounts...) {
		for _, list := range [][]impl.Event{nil, {keepEvent}, {lossEvent(3)}, {cmdEvent(1, bytesOf(syncCmd), 0, "")}, eventsOf(300), {{}}} {
			wantNotReplayed(t, blocks, list)
		}
	}
}

// A heardStep is one Event of a row that is written out, and the store behind it.
type heardStep struct {
	e    impl.Event
	kept []int64
	now  []int64
	held impl.Holding
}

func cmdStep(who int64, c impl.Cmd, status int64, text string, kept, now []int64, h impl.Holding) heardStep {
	return heardStep{cmdEvent(who, bytesOf(c), status, text), kept, now, h}
}

// blockSteps have each Status that comes of OpRead to OpSync, but SaConflict.
func blockSteps() []heardStep {
	h, none := held(0, -1, 0, 0, 0, 0, 0), []int64{0, 0}
	return []heardStep{
		cmdStep(1, readOf(0), impl.SaGood, "0", none, none, h),
		cmdStep(1, writeOf(0, 5), impl.SaGood, "", none, []int64{5, 0}, h),
		cmdStep(3, readOf(0), impl.SaGood, "5", none, []int64{5, 0}, h),
		cmdStep(1, readOf(2), impl.SaRange, "", none, []int64{5, 0}, h),
		cmdStep(1, writeOf(2, 5), impl.SaRange, "", none, []int64{5, 0}, h),
		cmdStep(1, writeOf(1, 10000), impl.SaRange, "", none, []int64{5, 0}, h),
		cmdStep(0, writeOf(1, 9999), impl.SaGood, "", none, []int64{5, 9999}, h),
		{lossEvent(1), []int64{5, 0}, []int64{5, 0}, h},
		cmdStep(2, swapOf(0, 5, 6), impl.SaGood, "", []int64{5, 0}, []int64{6, 0}, h),
		cmdStep(2, swapOf(0, 5, 7), impl.SaUnlike, "6", []int64{5, 0}, []int64{6, 0}, h),
		cmdStep(2, swapOf(0, 6, 10000), impl.SaRange, "", []int64{5, 0}, []int64{6, 0}, h),
		cmdStep(2, swapOf(1, 0, 8), impl.SaGood, "", []int64{5, 0}, []int64{6, 8}, h),
		{lossEvent(0), []int64{5, 0}, []int64{5, 0}, h},
		cmdStep(2, readOf(1), impl.SaGood, "0", []int64{5, 0}, []int64{5, 0}, h),
		cmdStep(0, unmapOf(0), impl.SaGood, "", []int64{5, 0}, []int64{0, 0}, h),
		cmdStep(0, unmapOf(255), impl.SaRange, "", []int64{5, 0}, []int64{0, 0}, h),
		cmdStep(0, syncCmd, impl.SaGood, "", none, none, h),
		cmdStep(0, writeOf(1, 3), impl.SaGood, "", none, []int64{0, 3}, h),
		{keepEvent, []int64{0, 3}, []int64{0, 3}, h},
		{lossEvent(0), []int64{0, 3}, []int64{0, 3}, h},
		cmdStep(0, writeOf(0, 4), impl.SaGood, "", []int64{0, 3}, []int64{4, 3}, h),
		{lossEvent(254), []int64{0, 3}, []int64{0, 3}, h},
		cmdStep(0, writeOf(0, 4), impl.SaGood, "", []int64{0, 3}, []int64{4, 3}, h),
		{lossEvent(255), []int64{4, 3}, []int64{4, 3}, h},
		cmdStep(1, readOf(0), impl.SaGood, "4", []int64{4, 3}, []int64{4, 3}, h),
	}
}

// holderSteps have each Status that comes of OpRegister to OpHolder, and SaConflict of the others.
func holderSteps() []heardStep {
	row := []int64{0}
	step := func(who int64, c impl.Cmd, status int64, text string, h impl.Holding) heardStep {
		return cmdStep(who, c, status, text, row, row, h)
	}
	none, one, both := held(0, -1, 0, 0, 0, 0, 0), held(0, -1, 1, 0, 5, 0, 0), held(0, -1, 2, 0, 5, 6, 0)
	alone, other, all := held(2, 1, 2, 0, 5, 6, 0), held(1, 2, 3, 0, 0, 6, 0), held(6, -1, 3, 0, 0, 6, 0)
	return []heardStep{
		step(1, keysCmd, impl.SaGood, "0", none),
		step(1, holderCmd, impl.SaGood, "0 0 0", none),
		step(1, reserveOf(1), impl.SaConflict, "", none),
		step(1, releaseCmd, impl.SaConflict, "", none),
		step(1, clearCmd, impl.SaConflict, "", none),
		step(1, preemptOf(5, 1), impl.SaConflict, "", none),
		step(1, preemptOf(0, 1), impl.SaRange, "", none),
		step(1, registerOf(5), impl.SaGood, "", one),
		step(2, registerOf(6), impl.SaGood, "", both),
		step(3, keysCmd, impl.SaGood, "2 5 6", both),
		step(1, reserveOf(2), impl.SaGood, "", alone),
		step(3, holderCmd, impl.SaGood, "2 2 5", alone),
		step(2, readOf(0), impl.SaConflict, "", alone),
		step(2, writeOf(0, 9), impl.SaConflict, "", alone),
		step(2, swapOf(0, 0, 9), impl.SaConflict, "", alone),
		step(2, unmapOf(0), impl.SaConflict, "", alone),
		step(2, syncCmd, impl.SaConflict, "", alone),
		step(2, reserveOf(2), impl.SaConflict, "", alone),
		step(2, preemptOf(7, 1), impl.SaConflict, "", alone),
		{lossEvent(0), row, row, alone},
		{keepEvent, row, row, alone},
		step(2, releaseCmd, impl.SaGood, "", alone),
		step(2, preemptOf(5, 1), impl.SaGood, "", other),
		step(2, releaseCmd, impl.SaGood, "", held(0, -1, 3, 0, 0, 6, 0)),
		step(2, reserveOf(6), impl.SaGood, "", all),
		step(1, readOf(0), impl.SaConflict, "", all),
		step(1, registerOf(0), impl.SaGood, "", held(6, -1, 4, 0, 0, 6, 0)),
		step(2, clearCmd, impl.SaGood, "", held(0, -1, 5, 0, 0, 0, 0)),
	}
}

// badSteps have each code of ReadCmd, and none of them changes anything.
func badSteps() []heardStep {
	h := held(0, -1, 0, 0, 0, 0, 0)
	list := []heardStep{cmdStep(1, writeOf(0, 7), impl.SaGood, "", []int64{0, 0, 0}, []int64{7, 0, 0}, h)}
	rows := []struct{ bytes, code string }{
		{"", "1"}, {"\x02\x00\x00\x05\x00\x00\x00", "1"},
		{bytesOf(writeOf(0, 5)) + "\x00", "2"}, {strings.Repeat("\x01", 20), "2"},
		{"\x02\x00\x00\x05\x00\x00\x00\xf7", "3"},
		{"\x00\x00\x00\x00\x00\x00\x00\xff", "4"}, {"\x0d\x00\x00\x00\x00\x00\x00\xf2", "4"},
		{"\x01\x00\x00\x01\x00\x00\x00\xfd", "5"}, {bytesOf(reserveOf(7)), "5"}, {bytesOf(registerOf(10000)), "5"},
	}
	for who := range int64(4) {
		for _, one := range rows {
			list = append(list, heardStep{cmdEvent(who, one.bytes, impl.SaBad, one.code), []int64{0, 0, 0}, []int64{7, 0, 0}, h})
		}
	}
	return list
}

func (step heardStep) store() impl.Store { return storeOf(diskOf(step.kept, step.now), step.held) }

func eventsOfSteps(steps []heardStep) []impl.Event {
	list := []impl.Event{}
	for _, step := range steps {
		list = append(list, step.e)
	}
	return list
}

func eachRowOfSteps() [][]heardStep { return [][]heardStep{blockSteps(), holderSteps(), badSteps()} }

// Each Event of each Op and Status that there may be, written out, one behind the other: the store behind each of them.
func TestReplayedWrittenOut(t *testing.T) {
	seen := map[[2]int64]bool{}
	for _, steps := range eachRowOfSteps() {
		list := eventsOfSteps(steps)
		for k, step := range steps {
			wantReplayed(t, int64(len(step.now)), list[:k+1], step.store(), true)
			if c, code := impl.ReadCmd(step.e.Bytes); code == impl.CdOk {
				seen[[2]int64{c.Op, step.e.Answer.Status}] = true
			}
		}
	}
	for _, op := range []struct {
		from, to int64
		statuses []int64
	}{
		{impl.OpRead, impl.OpUnmap, []int64{impl.SaGood, impl.SaRange, impl.SaConflict}},
		{impl.OpSync, impl.OpSync, []int64{impl.SaGood, impl.SaConflict}},
		{impl.OpSwap, impl.OpSwap, []int64{impl.SaUnlike}},
		{impl.OpReserve, impl.OpPreempt, []int64{impl.SaGood, impl.SaConflict}},
		{impl.OpPreempt, impl.OpPreempt, []int64{impl.SaRange}},
		{impl.OpRegister, impl.OpRegister, []int64{impl.SaGood}},
		{impl.OpKeys, impl.OpHolder, []int64{impl.SaGood}},
	} {
		for k := op.from; k <= op.to; k++ {
			for _, status := range op.statuses {
				if !seen[[2]int64{k, status}] {
					t.Errorf("Op %d with Status %d stands in no row", k, status)
				}
			}
		}
	}
}

// Where one Answer is another one in its Status or its Text alone it is not true. The store is that of all Events, as if nothing had been told of it.
func TestReplayedWhereOneAnswerIsAnother(t *testing.T) {
	for _, steps := range eachRowOfSteps() {
		list, last := eventsOfSteps(steps), steps[len(steps)-1]
		blocks, count := int64(len(last.now)), 0
		want := func(at int, answer impl.Answer) {
			t.Helper()
			if answer == list[at].Answer || list[at].Kind != impl.EvCmd {
				return
			}
			other := slices.Clone(list)
			other[at].Answer = answer
			wantReplayed(t, blocks, other, last.store(), false)
			wantReplayed(t, blocks, other[:at+1], steps[at].store(), false)
			count++
		}
		for at, e := range list {
			for status := int64(impl.SaGood); status <= impl.SaNone; status++ {
				want(at, impl.Answer{Status: status, Text: e.Answer.Text})
			}
			for _, text := range []string{"", "0", "1", "5", " ", e.Answer.Text + " ", e.Answer.Text + "0", "0" + e.Answer.Text, strings.TrimSuffix(e.Answer.Text, "5")} {
				want(at, impl.Answer{Status: e.Answer.Status, Text: text})
			}
			want(at, impl.Answer{Status: impl.SaBusy, Text: "x"})
		}
		if count < 200 {
			t.Errorf("%d Answers were turned", count)
		}
	}
}

// The first, the middle and the last one of rows of each length, and two at once, which do not make up for each other.
func TestReplayedWhereAnswersAreAnother(t *testing.T) {
	for _, n := range []int{1, 2, 3, 4, 5, 8, 50, 300} {
		h := newHistory(2)
		for k := range n {
			h.asks(1, writeOf(int64(k)%2, int64(k)))
		}
		h.wantReplayed(t)
		for _, at := range []int{0, 1, n / 2, n - 2, n - 1} {
			if at < 0 || at >= n {
				continue
			}
			other := slices.Clone(h.list)
			other[at].Answer.Status = impl.SaRange
			wantReplayed(t, 2, other, h.s, false)
			other[(at+1)%n].Answer.Text = "x"
			wantReplayed(t, 2, other, h.s, false)
		}
		all := slices.Clone(h.list)
		for k := range all {
			all[k].Answer.Status = impl.SaNone
		}
		wantReplayed(t, 2, all, h.s, false)
	}
}

// A command does what it does, whatever Answer stands beside it.
func TestReplayedHeedsNoAnswer(t *testing.T) {
	for status := int64(impl.SaGood); status <= impl.SaNone; status++ {
		list := []impl.Event{cmdEvent(1, bytesOf(writeOf(0, 9)), status, ""), keepEvent, cmdEvent(1, bytesOf(readOf(0)), impl.SaGood, "9"), cmdEvent(1, bytesOf(registerOf(4)), status, "")}
		wantReplayed(t, 1, list, storeOf(diskOf([]int64{9}, []int64{9}), held(0, -1, 1, 0, 4, 0, 0)), status == impl.SaGood)
	}
}

// EvLoss takes what was not kept but for the set, EvKeep ahead of it leaves all, behind it what is left.
func TestReplayedOfLossAndKeep(t *testing.T) {
	for blocks := int64(1); blocks <= 8; blocks++ {
		written := newHistory(blocks)
		for at := range blocks {
			written.asks(at%4, writeOf(at, 10+at))
		}
		written.adds(keepEvent)
		for at := range blocks {
			written.asks(at%4, writeOf(at, 20+at))
		}
		for set := range int64(256) {
			left := make([]int64, blocks)
			for at := range blocks {
				left[at] = 10 + at
				if set&(1<<at) != 0 {
					left[at] = 20 + at
				}
			}
			lost := storeOf(diskOf(left, left), written.s.Holding)
			kept := storeOf(diskOf(ramp(int(blocks), 20), ramp(int(blocks), 20)), written.s.Holding)
			list := slices.Clip(written.list)
			wantReplayed(t, blocks, append(list, lossEvent(set)), lost, true)
			wantReplayed(t, blocks, append(list, lossEvent(set), keepEvent), lost, true)
			wantReplayed(t, blocks, append(list, lossEvent(set), lossEvent(255-set)), lost, true)
			wantReplayed(t, blocks, append(list, keepEvent, lossEvent(set)), kept, true)
			wantReplayed(t, blocks, append(list, keepEvent, keepEvent, lossEvent(set), lossEvent(0)), kept, true)
		}
		wantReplayed(t, blocks, []impl.Event{lossEvent(255), keepEvent, lossEvent(0)}, newStoreByHand(blocks), true)
	}
}

// Power leaves the Holding, and so does EvKeep.
func TestReplayedKeepsTheHolding(t *testing.T) {
	h := newHistory(1).asks(0, registerOf(9999), reserveOf(1)).asks(3, registerOf(1))
	want := held(1, 0, 2, 9999, 0, 0, 1)
	for set := range int64(256) {
		list := append(slices.Clone(h.list), lossEvent(set), keepEvent, lossEvent(255-set))
		wantReplayed(t, 1, list, storeOf(diskOf([]int64{0}, []int64{0}), want), true)
	}
}

// manyEvents have as many right Events, with each Kind among them.
func manyEvents(blocks int64, n int) *history {
	h := newHistory(blocks)
	cmds := slices.DeleteFunc(allCmds(), func(c impl.Cmd) bool { return !cmdOkByHand(c) })
	for k := range n {
		switch {
		case k%17 == 16:
			h.adds(lossEvent(int64(k) % 256))
		case k%23 == 22:
			h.adds(keepEvent)
		case k%13 == 12:
			h.adds(cmdEvent(int64(k)%4, notCmdBytes[k%len(notCmdBytes)].bytes[:min(k%21, len(notCmdBytes[k%len(notCmdBytes)].bytes))], 0, ""))
		default:
			h.asks(int64(k)%4, cmds[k*7%len(cmds)])
		}
	}
	return h
}

// A list may be longer than that of a Pair: the chapter tells no limit.
func TestReplayedOfLongLists(t *testing.T) {
	for _, n := range []int{3, 4, 5, 7, 8, 9, 299, 300, 301, 302, 600, 5000} {
		h := manyEvents(1+int64(n)%8, n)
		h.wantReplayed(t)
		for _, at := range []int{0, n / 2, n - 1} {
			wrong := slices.Clone(h.list)
			wrong[at] = impl.Event{}
			wantNotReplayed(t, h.blocks, wrong)
		}
	}
	many := slices.Repeat([]impl.Event{keepEvent, lossEvent(255), cmdEvent(1, "x", impl.SaBad, "1")}, 100000)
	wantReplayed(t, 8, many, newStoreByHand(8), true)
}

// notEvents are of each Kind, with one field past its limits, or with something told that must be zero.
func notEvents() []impl.Event {
	list := []impl.Event{{}, {Kind: impl.EvLoss, Set: 256}, {Kind: impl.EvLoss, Set: -1}, {Kind: impl.EvCmd, Bytes: strings.Repeat("a", 21)}}
	for _, kind := range append([]int64{0, 4, 5, 257, 258, 259}, farNumbers...) {
		list = append(list, impl.Event{Kind: kind}, impl.Event{Kind: kind, Set: 3}, impl.Event{Kind: kind, Who: 1, Bytes: bytesOf(syncCmd)})
	}
	for kind, most := range mostOfKind {
		for _, n := range farNumbers {
			list = append(list, impl.Event{Kind: kind, Who: n}, impl.Event{Kind: kind, Answer: impl.Answer{Status: n}}, impl.Event{Kind: kind, Set: n})
		}
		list = append(list, impl.Event{Kind: kind, Who: most.who + 1}, impl.Event{Kind: kind, Answer: impl.Answer{Status: most.status + 1}}, impl.Event{Kind: kind, Set: most.set + 1})
		list = append(list, impl.Event{Kind: kind, Bytes: strings.Repeat("b", int(most.bytes)+1)}, impl.Event{Kind: kind, Bytes: strings.Repeat("\x00", 256)})
		if most.text == 0 {
			list = append(list, impl.Event{Kind: kind, Answer: impl.Answer{Text: "0"}}, impl.Event{Kind: kind, Answer: impl.Answer{Text: "\x00"}})
		}
	}
	return list
}

func TestReplayedOfNoEvent(t *testing.T) {
	h := manyEvents(2, 9)
	for _, wrong := range notEvents() {
		if eventOkByHand(wrong) {
			t.Fatalf("%+v is right", wrong)
		}
		wantNotReplayed(t, 2, []impl.Event{wrong})
		for at := range len(h.list) + 1 {
			wantNotReplayed(t, 2, slices.Insert(slices.Clone(h.list), at, wrong))
		}
		wantNotReplayed(t, 2, append(slices.Repeat(h.list, 100), wrong))
		wantNotReplayed(t, 2, []impl.Event{wrong, wrong})
	}
}

// At its limits an Event is right still; what is told of it is another thing.
func TestReplayedAtTheLimitsOfEachField(t *testing.T) {
	fresh := newStoreByHand(2)
	for who := range int64(4) {
		wantReplayed(t, 2, []impl.Event{cmdEvent(who, "", impl.SaBad, "1")}, fresh, true)
	}
	for n := range 21 {
		code := "2"
		if n < 8 {
			code = "1"
		}
		if n == 8 {
			code = "3"
		}
		wantReplayed(t, 2, []impl.Event{cmdEvent(0, strings.Repeat("\xff", n), impl.SaBad, code)}, fresh, true)
	}
	for _, set := range []int64{0, 1, 254, 255} {
		wantReplayed(t, 2, []impl.Event{lossEvent(set)}, fresh, true)
	}
	for status := int64(impl.SaGood); status <= impl.SaNone; status++ {
		wantReplayed(t, 2, []impl.Event{cmdEvent(0, "", status, "1")}, fresh, status == impl.SaBad)
		wantReplayed(t, 2, []impl.Event{cmdEvent(0, bytesOf(readOf(1)), status, "0")}, fresh, status == impl.SaGood)
	}
	wantReplayed(t, 2, []impl.Event{cmdEvent(0, "", impl.SaBad, strings.Repeat("1", 100000))}, fresh, false)
}

// thrownHistoryCmd is one of those that come to something, as a rule: few keys, values and blocks.
func thrownHistoryCmd(source *rand.Rand, blocks int64) impl.Cmd {
	at, value, key, kind := source.Int63n(blocks), source.Int63n(3), source.Int63n(4), 1+source.Int63n(6)
	switch op := 1 + source.Int63n(12); op {
	case impl.OpRead, impl.OpUnmap:
		return impl.Cmd{Op: op, At: at}
	case impl.OpWrite:
		return writeOf(at, value)
	case impl.OpSwap:
		return swapOf(at, value, source.Int63n(3))
	case impl.OpRegister:
		return registerOf(key)
	case impl.OpReserve:
		return reserveOf(kind)
	case impl.OpPreempt:
		return preemptOf(key, kind)
	default:
		return impl.Cmd{Op: op}
	}
}

// thrownHistoryBytes are those of a right command as a rule, of one that may be out of range now and then, and seldom of none.
func thrownHistoryBytes(source *rand.Rand, blocks int64) string {
	switch source.Intn(24) {
	case 0:
		return notCmdBytes[source.Intn(len(notCmdBytes))].bytes
	case 1:
		return strings.Repeat("z", source.Intn(22))
	case 2, 3, 4:
		return bytesOf(thrownStoreCmd(source))
	}
	return bytesOf(thrownHistoryCmd(source, blocks))
}

// thrownHistory is right.
func thrownHistory(source *rand.Rand, n int) *history {
	h := newHistory(1 + source.Int63n(8))
	for range n {
		switch source.Intn(12) {
		case 0:
			h.adds(lossEvent(source.Int63n(256)))
		case 1:
			h.adds(keepEvent)
		default:
			bytes := thrownHistoryBytes(source, h.blocks)
			h.adds(cmdEvent(source.Int63n(4), bytes[:min(len(bytes), 20)], 0, ""))
		}
	}
	return h
}

// turnedEvent has one thing changed, which may be right still, or come to the same.
func turnedEvent(source *rand.Rand, e impl.Event) impl.Event {
	switch source.Intn(6) {
	case 0:
		e.Answer.Status = thrownNear(source, 0, 3, 7)
	case 1:
		e.Answer.Text = []string{"", "0", "1", "2", e.Answer.Text + "0"}[source.Intn(5)]
	case 2:
		e.Who = thrownNear(source, 0, 1, 2, 3)
	case 3:
		e.Set = thrownNear(source, 0, 3, 255)
	case 4:
		e.Kind = thrownNear(source, 1, 2, 3)
	default:
		e.Bytes = thrownHistoryBytes(source, 2)
	}
	return e
}

func TestReplayedThrown(t *testing.T) {
	source := rand.New(rand.NewSource(31))
	replayed, others, none := 0, 0, 0
	for range 4000 {
		h := thrownHistory(source, source.Intn(60))
		h.wantReplayed(t)
		replayed++
		for range 6 {
			list := slices.Clone(h.list)
			for range source.Intn(3) {
				if len(list) > 0 {
					at := source.Intn(len(list))
					list[at] = turnedEvent(source, list[at])
				}
			}
			s, same := replayedByHand(h.blocks, list)
			wantReplayed(t, h.blocks, list, s, same)
			switch {
			case same:
				replayed++
			case noStore(s):
				none++
			default:
				others++
			}
		}
		wantReplayedByHand(t, thrownNear(source, 0, 1, 8, 9), h.list)
	}
	if min(replayed, others, none) < 2000 {
		t.Errorf("%d replayed, %d with another Answer, %d of no Event", replayed, others, none)
	}
}

// Promise 21: each answers at every argument, with numbers from one end of their range to the other.
func TestReplayedAnswersAtEveryArgument(t *testing.T) {
	ends := []int64{math.MinInt64, math.MinInt64 + 1, -1 << 32, -1, 0, 1, 2, 3, 4, 7, 8, 9, 255, 256, 1 << 32, math.MaxInt64 - 1, math.MaxInt64}
	for _, a := range ends {
		for _, b := range ends {
			for _, e := range []impl.Event{{Kind: a, Who: b}, {Kind: a, Set: b}, {Kind: a, Bytes: "x", Answer: impl.Answer{Status: b, Text: "1"}}, {Kind: 1, Who: a, Answer: impl.Answer{Status: b}}, {Kind: 2, Set: a}, {Kind: 1, Set: b}, {Kind: 3, Who: a}} {
				for _, blocks := range []int64{1, 8, a, b} {
					wantReplayedByHand(t, blocks, []impl.Event{e})
					wantReplayedByHand(t, blocks, []impl.Event{keepEvent, e, lossEvent(1)})
				}
			}
		}
	}
	wantNotReplayed(t, 3, []impl.Event{cmdEvent(1, strings.Repeat("x", 1<<20), impl.SaBad, "2")})
	wantReplayedByHand(t, 3, []impl.Event{cmdEvent(1, "x", impl.SaBad, strings.Repeat("1", 1<<20))})
}
