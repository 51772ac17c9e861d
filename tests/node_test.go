package tests

import (
	"fmt"
	"math"
	"math/rand"
	"slices"
	"strings"
	"testing"

	"loop.example/g00354/impl"
)

func cloneNode(n impl.Node) impl.Node {
	n.Disk, n.Holding = cloneDisk(n.Disk), cloneHolding(n.Holding)
	n.Copier, n.Sink = cloneCopier(n.Copier), cloneSink(n.Sink)
	return n
}

func sameNode(a, b impl.Node) bool {
	return a.Id == b.Id && a.Up == b.Up && a.Log == b.Log && a.Record == b.Record &&
		sameDisk(a.Disk, b.Disk) && sameHolding(a.Holding, b.Holding) && sameCopier(a.Copier, b.Copier) && sameSink(a.Sink, b.Sink)
}

func noNode(n impl.Node) bool { return sameNode(n, impl.Node{}) }

func sameMsg(a, b impl.Msg) bool {
	return a.To == b.To && a.Kind == b.Kind && a.Try == b.Try && a.At == b.At && a.Turn == b.Turn &&
		a.Value == b.Value && a.Epoch == b.Epoch && sameHolding(a.Holding, b.Holding)
}

// showNode tells of a Log no more than its end.
func showNode(n impl.Node) string {
	log := n.Log[max(0, len(n.Log)-60):]
	n.Log = fmt.Sprintf("%d bytes ..%q", len(n.Log), log)
	return fmt.Sprintf("%+v", n)
}

func edited(n impl.Node, edit func(n *impl.Node)) impl.Node {
	n = cloneNode(n)
	edit(&n)
	return n
}

// notedNode has one more record at the end of its Log.
func notedNode(n impl.Node, r impl.Record) impl.Node {
	n = cloneNode(n)
	n.Log += framedByHand(showRecordByHand(r))
	n.Record = r
	return n
}

func fallenByHand(n impl.Node, set int64) impl.Node {
	n = cloneNode(n)
	left := lostByHand(n.Disk, set)
	n.Up, n.Disk = false, diskOf(left, slices.Clone(left))
	n.Copier, n.Sink = impl.Copier{}, impl.Sink{}
	return n
}

func flushedByHand(d impl.Disk) impl.Disk { return diskOf(slices.Clone(d.Now), slices.Clone(d.Now)) }

// nodeOf is Up, with blocks that are loose, held by 1, and with a Log that ends with r.
func nodeOf(id int64, blocks int, r impl.Record) impl.Node {
	log := framedByHand("record 0 3 0 0") + framedByHand("a b") + framedByHand(showRecordByHand(r))
	return impl.Node{Id: id, Up: true, Disk: rampDisk(blocks), Holding: held(2, 1, 8, 5, 7, 0, 0), Log: log, Record: r}
}

func withCopier(n impl.Node, c impl.Copier) impl.Node {
	return edited(n, func(n *impl.Node) { n.Copier = cloneCopier(c) })
}

func withSink(n impl.Node, s impl.Sink) impl.Node {
	return edited(n, func(n *impl.Node) { n.Sink = cloneSink(s) })
}

var copierShapes = []string{"none", "closed", "dirty", "dirty and waits", "waits", "clean"}

// copierShape is a Copier of so many blocks that is as its name tells.
func copierShape(name string, blocks int, try int64) impl.Copier {
	all := int64(1)<<blocks - 1
	switch name {
	case "closed":
		return copierOf(try, false, all, 0, make([]int64, blocks)...)
	case "dirty":
		return copierOf(try, true, all, 0, ramp(blocks, 3)...)
	case "dirty and waits":
		return copierOf(try, true, all&5, all, ramp(blocks, 3)...)
	case "waits":
		return copierOf(try, true, 0, all, ramp(blocks, 3)...)
	case "clean":
		return copierOf(try, true, 0, 0, ramp(blocks, 3)...)
	}
	return impl.Copier{}
}

func nodeOkByHand(n impl.Node) bool {
	if n.Id != 0 && n.Id != 1 || !diskOkByHand(n.Disk) || !holdingOkByHand(n.Holding) || len(n.Log) > 40000 {
		return false
	}
	r, whole, is := recalledByHand(n.Log)
	if !is || r != n.Record || n.Up && whole != n.Log {
		return false
	}
	blocks := len(n.Disk.Now)
	if !sameCopier(n.Copier, impl.Copier{}) {
		if !n.Up || r.State == 3 || !copierOkByHand(n.Copier) || n.Copier.Try != r.Tried || len(n.Copier.Turns) != blocks {
			return false
		}
	}
	if !sameSink(n.Sink, impl.Sink{}) {
		if !n.Up || r.State != 3 || !sinkOkByHand(n.Sink) || n.Sink.Try != r.Seen || len(n.Sink.Turns) != blocks {
			return false
		}
	}
	return true
}

func between(n, from, to int64) bool { return n >= from && n <= to }

func msgOkByHand(m impl.Msg) bool {
	return between(m.To, 0, 1) && between(m.Kind, 1, 8) && between(m.Try, 0, 100000) && between(m.At, 0, 7) &&
		between(m.Turn, 0, 1000000000) && between(m.Value, 0, 9999) && between(m.Epoch, 0, 100000) &&
		(holdingOkByHand(m.Holding) || sameHolding(m.Holding, impl.Holding{}))
}

// A handHouse tells the chapter a second time: it gives up by returning, where the program does by panic.
type handHouse struct {
	n    impl.Node
	torn int64
	msgs []impl.Msg
	done bool
}

// note tells whether it is Up still.
func (h *handHouse) note(r impl.Record) bool {
	h.done = true
	frame := framedByHand(showRecordByHand(r))
	room := len(h.n.Log)+len(frame) <= 40000 && strings.Count(h.n.Log, "\n") < 2000
	if room && h.torn == 0 {
		h.n.Log += frame
		h.n.Record = r
		return true
	}
	if room && h.torn < int64(len(frame)) {
		h.n.Log += frame[:len(frame)-int(h.torn)]
	}
	h.n = fallenByHand(h.n, 0)
	return false
}

func (h *handHouse) say(m impl.Msg) {
	h.done = true
	m.To = 1 - h.n.Id
	h.msgs = append(h.msgs, m)
}

func (h *handHouse) told(kind int64) {
	r, blocks := h.n.Record, len(h.n.Disk.Now)
	owns, hands, copies := r.State == 1, r.State == 2, h.n.Copier.Try > 0
	switch {
	case kind == 1 && owns && !copies && r.Tried < 100000:
		r.Tried++
		if h.note(r) {
			h.n.Copier = copierShape("closed", blocks, r.Tried)
			h.say(impl.Msg{Kind: 1, Try: r.Tried})
		}
	case kind == 2 && copies && h.n.Copier.Open:
		h.n.Copier, h.done = againByHand(h.n.Copier), true
	case kind == 2 && copies:
		h.say(impl.Msg{Kind: 1, Try: r.Tried})
	case kind == 3:
		if c, at := nextByHand(h.n.Copier); at >= 0 {
			h.n.Copier = c
			h.say(impl.Msg{Kind: 3, Try: r.Tried, At: at, Turn: c.Turns[at], Value: h.n.Disk.Now[at]})
		}
	case kind == 4 && owns && cleanByHand(h.n.Copier):
		h.n.Disk = flushedByHand(h.n.Disk)
		r.State = 2
		if h.note(r) {
			h.say(impl.Msg{Kind: 5, Try: r.Tried, Epoch: r.Epoch, Holding: cloneHolding(h.n.Holding)})
		}
	case kind == 5 && hands:
		h.say(impl.Msg{Kind: 5, Try: r.Tried, Epoch: r.Epoch, Holding: cloneHolding(h.n.Holding)})
	case kind == 6 && hands:
		h.say(impl.Msg{Kind: 7, Try: r.Tried, Epoch: r.Epoch})
	case kind == 6 && owns && copies:
		h.n.Copier, h.done = impl.Copier{}, true
	}
}

func (h *handHouse) heard(m impl.Msg) {
	switch m.Kind {
	case 1, 7:
		h.heardOfATry(m)
	case 2, 4:
		h.heardAsCopier(m)
	case 3, 5:
		h.heardAsSink(m)
	case 6, 8:
		h.heardAsHanding(m)
	}
}

func (h *handHouse) heardOfATry(m impl.Msg) {
	r := h.n.Record
	isNew := m.Try > r.Seen
	switch {
	case m.Kind == 7 && r.Epoch > m.Epoch:
		h.say(impl.Msg{Kind: 6, Try: m.Try, Epoch: m.Epoch + 1})
		return
	case r.State != 3:
		return
	case m.Kind == 7 && (isNew || h.n.Sink.Try == m.Try):
		h.n.Sink = impl.Sink{}
	}
	if isNew {
		r.Seen = m.Try
		if !h.note(r) {
			return
		}
	}
	if m.Kind == 7 {
		h.say(impl.Msg{Kind: 8, Try: m.Try})
		return
	}
	if isNew {
		h.n.Sink = sinkOf(m.Try, make([]int64, len(h.n.Disk.Now))...)
	}
	if m.Try > 0 && h.n.Sink.Try == m.Try {
		h.say(impl.Msg{Kind: 2, Try: m.Try})
	}
}

func (h *handHouse) heardAsCopier(m impl.Msg) {
	if m.Try == 0 || h.n.Copier.Try != m.Try {
		return
	}
	before := cloneCopier(h.n.Copier)
	if m.Kind == 2 {
		h.n.Copier.Open = true
	} else {
		h.n.Copier = ackedByHand(h.n.Copier, m.At, m.Turn)
	}
	h.done = !sameCopier(before, h.n.Copier)
}

func (h *handHouse) heardAsSink(m impl.Msg) {
	r, is := h.n.Record, m.Try > 0 && h.n.Sink.Try == m.Try
	switch {
	case m.Kind == 3 && is && int(m.At) < len(h.n.Sink.Turns):
		if h.n.Sink.Turns[m.At] < m.Turn {
			h.n.Sink.Turns[m.At], h.n.Disk.Now[m.At] = m.Turn, m.Value
		}
		h.say(impl.Msg{Kind: 4, Try: m.Try, At: m.At, Turn: m.Turn})
	case m.Kind == 3 || !holdingOkByHand(m.Holding) || m.Epoch > 99999:
	case is && m.Epoch >= r.Epoch:
		h.n.Disk, h.n.Holding = flushedByHand(h.n.Disk), cloneHolding(m.Holding)
		r.Epoch, r.State = m.Epoch+1, 1
		if h.note(r) {
			h.n.Sink = impl.Sink{}
			h.say(impl.Msg{Kind: 6, Try: m.Try, Epoch: r.Epoch})
		}
	case r.Epoch > m.Epoch:
		h.say(impl.Msg{Kind: 6, Try: m.Try, Epoch: m.Epoch + 1})
	}
}

func (h *handHouse) heardAsHanding(m impl.Msg) {
	r := h.n.Record
	if r.State != 2 || r.Tried != m.Try || m.Kind == 6 && m.Epoch <= r.Epoch {
		return
	}
	if r.State = 1; m.Kind == 6 {
		r.Epoch, r.State = m.Epoch, 3
	}
	if h.note(r) {
		h.n.Copier = impl.Copier{}
	}
}

func toldByHand(n impl.Node, kind, torn int64) (impl.Node, []impl.Msg, bool) {
	if torn < 0 || !nodeOkByHand(n) {
		return impl.Node{}, nil, false
	}
	h := handHouse{n: cloneNode(n), torn: torn}
	if n.Up {
		h.told(kind)
	}
	return h.n, h.msgs, h.done
}

func heardByHand(n impl.Node, m impl.Msg, torn int64) (impl.Node, []impl.Msg, bool) {
	if torn < 0 || !nodeOkByHand(n) {
		return impl.Node{}, nil, false
	}
	h := handHouse{n: cloneNode(n), torn: torn}
	if n.Up && msgOkByHand(m) && m.To == n.Id {
		h.heard(m)
	}
	return h.n, h.msgs, h.done
}

func askedByHand(n impl.Node, who int64, bytes string) (impl.Node, impl.Answer) {
	if !nodeOkByHand(n) {
		return impl.Node{}, impl.Answer{Status: 7}
	}
	n = cloneNode(n)
	c, code := readCmdByHand(bytes)
	switch {
	case !n.Up || who < 0 || who > 3:
		return n, impl.Answer{Status: 7}
	case code != 0:
		return n, impl.Answer{Status: 4, Text: fmt.Sprint(code)}
	case n.Record.State > 1:
		return n, impl.Answer{Status: n.Record.State + 3}
	}
	s, a := storedByHand(storeOf(n.Disk, n.Holding), who, c)
	n.Disk, n.Holding = s.Disk, s.Holding
	if a.Status == 0 && c.Op >= 2 && c.Op <= 4 && n.Copier.Try > 0 {
		n.Copier = markedByHand(n.Copier, c.At)
	}
	return n, a
}

// wantSteps holds what Told or Heard answered against the given, and wants the house as it was.
func wantSteps(t *testing.T, what string, n impl.Node, call func(impl.Node) (impl.Node, []impl.Msg, bool), want impl.Node, msgs []impl.Msg, done bool) {
	t.Helper()
	before := cloneNode(n)
	got, letters, is := call(n)
	if is != done || !sameNode(got, want) || !slices.EqualFunc(letters, msgs, sameMsg) {
		t.Errorf("%s of %s =\n%s, %v, %v, not\n%s, %v, %v", what, showNode(before), showNode(got), letters, is, showNode(want), msgs, done)
	}
	if !sameNode(n, before) {
		t.Errorf("%s of %s: it is %s now", what, showNode(before), showNode(n))
	}
}

func wantNodeTold(t *testing.T, n impl.Node, kind, torn int64, want impl.Node, msgs []impl.Msg, done bool) {
	t.Helper()
	wantSteps(t, fmt.Sprintf("Told %d, torn %d,", kind, torn), n, func(n impl.Node) (impl.Node, []impl.Msg, bool) { return impl.Told(n, kind, torn) }, want, msgs, done)
}

// wantNodeHeard wants the Msg as it was, too.
func wantNodeHeard(t *testing.T, n impl.Node, m impl.Msg, torn int64, want impl.Node, msgs []impl.Msg, done bool) {
	t.Helper()
	before := m
	before.Holding = cloneHolding(m.Holding)
	wantSteps(t, fmt.Sprintf("Heard %+v, torn %d,", m, torn), n, func(n impl.Node) (impl.Node, []impl.Msg, bool) { return impl.Heard(n, m, torn) }, want, msgs, done)
	if !sameMsg(m, before) {
		t.Errorf("Heard %+v: it is %+v now", before, m)
	}
}

func wantToldStays(t *testing.T, n impl.Node, kind, torn int64) {
	t.Helper()
	wantNodeTold(t, n, kind, torn, n, nil, false)
}

func wantHeardStays(t *testing.T, n impl.Node, m impl.Msg, torn int64) {
	t.Helper()
	wantNodeHeard(t, n, m, torn, n, nil, false)
}

func wantNodeToldByHand(t *testing.T, n impl.Node, kind, torn int64) {
	t.Helper()
	want, msgs, done := toldByHand(n, kind, torn)
	wantNodeTold(t, n, kind, torn, want, msgs, done)
}

func wantNodeHeardByHand(t *testing.T, n impl.Node, m impl.Msg, torn int64) {
	t.Helper()
	want, msgs, done := heardByHand(n, m, torn)
	wantNodeHeard(t, n, m, torn, want, msgs, done)
}

func wantAsked(t *testing.T, n impl.Node, who int64, bytes string, want impl.Node, a impl.Answer) {
	t.Helper()
	before := cloneNode(n)
	if got, told := impl.Asked(n, who, bytes); told != a || !sameNode(got, want) {
		t.Errorf("Asked(%s, %d, %q) =\n%s, %v, not\n%s, %v", showNode(before), who, bytes, showNode(got), told, showNode(want), a)
	}
	if !sameNode(n, before) {
		t.Errorf("Asked(%s, %d, %q): it is %s now", showNode(before), who, bytes, showNode(n))
	}
}

func wantAskedByHand(t *testing.T, n impl.Node, who int64, bytes string) {
	t.Helper()
	want, a := askedByHand(n, who, bytes)
	wantAsked(t, n, who, bytes, want, a)
}

func wantFallen(t *testing.T, n impl.Node, set int64, want impl.Node, done bool) {
	t.Helper()
	wantSteps(t, fmt.Sprint("Fallen with ", set), n, func(n impl.Node) (impl.Node, []impl.Msg, bool) {
		got, is := impl.Fallen(n, set)
		return got, nil, is
	}, want, nil, done)
}

func wantRisen(t *testing.T, n impl.Node, want impl.Node, done bool) {
	t.Helper()
	wantSteps(t, "Risen", n, func(n impl.Node) (impl.Node, []impl.Msg, bool) {
		got, is := impl.Risen(n)
		return got, nil, is
	}, want, nil, done)
}

var threeStates = []int64{impl.StOwner, impl.StHanding, impl.StOther}

// rightNodes are houses of each State, with each Copier and Sink that goes with it, Up and not, whole and torn, of few and of many blocks.
func rightNodes() []impl.Node {
	list := []impl.Node{}
	for _, blocks := range []int{1, 3, 8} {
		for id := range int64(2) {
			for _, state := range threeStates {
				for _, r := range []impl.Record{{Epoch: 4, Tried: 6, Seen: 6}, {Epoch: 0, Tried: 1, Seen: 2}, {Epoch: 100000, Tried: 100000, Seen: 100000}, {Epoch: 99999, Tried: 99999, Seen: 99999}, {}} {
					r.State = state
					list = append(list, nodesOf(nodeOf(id, blocks, r))...)
				}
			}
		}
	}
	return list
}

// nodesOf are the houses with this Record.
func nodesOf(n impl.Node) []impl.Node {
	blocks, r := len(n.Disk.Now), n.Record
	down := fallenByHand(n, 0)
	frame := framedByHand("record 5 1 2 3")
	list := []impl.Node{n, down, edited(down, func(n *impl.Node) { n.Log += frame[:len(frame)-1] }), edited(down, func(n *impl.Node) { n.Disk = rampDisk(blocks) })}
	if r.State != impl.StOther && r.Tried > 0 {
		for _, shape := range copierShapes[1:] {
			list = append(list, withCopier(n, copierShape(shape, blocks, r.Tried)))
		}
	}
	if r.State == impl.StOther && r.Seen > 0 {
		list = append(list, withSink(n, sinkOf(r.Seen, make([]int64, blocks)...)), withSink(n, sinkOf(r.Seen, ramp(blocks, 3)...)), withSink(n, sinkOf(r.Seen, filled(blocks, impl.MaxTurn)...)))
	}
	return list
}

func TestNodeConstants(t *testing.T) {
	kinds := [...]int64{impl.GoMove, impl.GoAgain, impl.GoCopy, impl.GoHand, impl.GoSend, impl.GoCancel}
	letters := [...]int64{impl.MsBegin, impl.MsReady, impl.MsCopy, impl.MsCopied, impl.MsHand, impl.MsTaken, impl.MsCancel, impl.MsNo}
	if kinds != [...]int64{1, 2, 3, 4, 5, 6} || letters != [...]int64{1, 2, 3, 4, 5, 6, 7, 8} {
		t.Errorf("constants %v, %v", kinds, letters)
	}
}

func TestNewNode(t *testing.T) {
	for id := range int64(2) {
		for blocks := int64(1); blocks <= 8; blocks++ {
			want := impl.Node{Id: id, Up: true, Disk: diskOf(make([]int64, blocks), make([]int64, blocks)), Holding: held(0, -1, 0, 0, 0, 0, 0)}
			owner, other := want, want
			owner.Log, owner.Record = "14 670154 record 1 1 0 0\n", impl.Record{Epoch: 1, State: impl.StOwner}
			other.Log, other.Record = "14 998453 record 0 3 0 0\n", impl.Record{Epoch: 0, State: impl.StOther}
			for _, owns := range eachFlag {
				want := other
				if owns {
					want = owner
				}
				got, is := impl.NewNode(id, blocks, owns)
				if !is || !sameNode(got, want) || !impl.NodeOk(got) {
					t.Errorf("NewNode(%d, %d, %v) = %s, %v", id, blocks, owns, showNode(got), is)
				}
				spoilNode(got)
				if again, _ := impl.NewNode(id, blocks, owns); !sameNode(again, want) {
					t.Errorf("NewNode(%d, %d, %v) = %s after its answer was written over", id, blocks, owns, showNode(again))
				}
			}
		}
	}
}

func TestNewNodeOutOfRange(t *testing.T) {
	wrong := func(id, blocks int64) {
		for _, owns := range eachFlag {
			if n, is := impl.NewNode(id, blocks, owns); is || !noNode(n) {
				t.Errorf("NewNode(%d, %d, %v) = %s, %v", id, blocks, owns, showNode(n), is)
			}
		}
	}
	noBlocks := append([]int64{0}, notCounts...)
	noIds := append([]int64{2, 3}, farNumbers...)
	for _, id := range slices.Concat([]int64{0, 1}, noIds) {
		for _, blocks := range noBlocks {
			wrong(id, blocks)
		}
	}
	for _, id := range noIds {
		for blocks := int64(1); blocks <= 8; blocks++ {
			wrong(id, blocks)
		}
	}
}

// Each State with and without a Copier and a Sink, Up and not.
func TestNodeOkWrittenOut(t *testing.T) {
	copier, sink := copierOf(6, true, 1, 4, 3, 0, 9), sinkOf(7, 0, 3, 9)
	for _, state := range threeStates {
		n := nodeOf(1, 3, impl.Record{Epoch: 4, State: state, Tried: 6, Seen: 7})
		down := edited(n, func(n *impl.Node) { n.Up = false })
		for _, one := range []struct {
			what string
			n    impl.Node
			want bool
		}{
			{"Up", n, true},
			{"not Up", down, true},
			{"Up, with a Copier", withCopier(n, copier), state != impl.StOther},
			{"Up, with a Sink", withSink(n, sink), state == impl.StOther},
			{"Up, with both", withSink(withCopier(n, copier), sink), false},
			{"not Up, with a Copier", withCopier(down, copier), false},
			{"not Up, with a Sink", withSink(down, sink), false},
			{"not Up, with both", withSink(withCopier(down, copier), sink), false},
			{"Up, a Copier of another try", withCopier(n, copierOf(7, true, 1, 4, 3, 0, 9)), false},
			{"Up, a Sink of another try", withSink(n, sinkOf(6, 0, 3, 9)), false},
			{"Up, a Copier of two blocks", withCopier(n, copierOf(6, true, 1, 2, 3, 0)), false},
			{"Up, a Sink of two blocks", withSink(n, sinkOf(7, 0, 3)), false},
		} {
			if got := impl.NodeOk(one.n); got != one.want {
				t.Errorf("State %d, %s: NodeOk = %v", state, one.what, got)
			}
		}
	}
}

func TestNodeOk(t *testing.T) {
	for _, n := range rightNodes() {
		if !nodeOkByHand(n) {
			t.Fatalf("%s is not right by hand", showNode(n))
		}
		if !impl.NodeOk(n) {
			t.Errorf("%s is not right", showNode(n))
		}
	}
}

// paddedLog has just so many bytes, of which the last ones are the record.
func paddedLog(size int, r impl.Record) string {
	log, last, more := "", framedByHand(showRecordByHand(r)), framedByHand(strings.Repeat("z", 200))
	for size-len(log)-len(last) > 300 {
		log += more
	}
	// The same count of another letter may have a Check of fewer digits.
	for _, letter := range "abcdefghij" {
		for n := range 301 {
			more := framedByHand(strings.Repeat(string(letter), n))
			if len(log)+len(more)+len(last) == size {
				return log + more + last
			}
		}
	}
	return ""
}

// A Log is at most MaxLog bytes, also where it is not Up and what is too much is behind the record.
func TestNodeOkUpToMaxLog(t *testing.T) {
	for _, state := range threeStates {
		r := impl.Record{Epoch: 4, State: state, Tried: 6, Seen: 6}
		for size := 39990; size <= 40010; size++ {
			n := nodeOf(0, 2, r)
			n.Log = paddedLog(size, r)
			if len(n.Log) != size {
				t.Fatalf("no log of %d bytes", size)
			}
			down, torn := n, n
			down.Up, torn.Up = false, false
			torn.Log = paddedLog(39900, r) + strings.Repeat("z", size-39900)
			for _, one := range []impl.Node{n, down, torn} {
				if got := impl.NodeOk(one); got != (size <= 40000) {
					t.Errorf("NodeOk of %s = %v", showNode(one), got)
				}
			}
		}
	}
}

// A nodeBreach is a house with one thing about it that is not right.
type nodeBreach struct {
	what string
	n    impl.Node
}

func idAndStoreBreaches(n impl.Node) []nodeBreach {
	list := []nodeBreach{{"the zero Node", impl.Node{}}}
	for _, id := range append([]int64{2, 3}, farNumbers...) {
		list = append(list, nodeBreach{fmt.Sprint("Id ", id), edited(n, func(n *impl.Node) { n.Id = id })})
	}
	for k, d := range notDisks() {
		if k%5 == 0 {
			list = append(list, nodeBreach{fmt.Sprint("Disk ", d), edited(n, func(n *impl.Node) { n.Disk, n.Copier, n.Sink = d, impl.Copier{}, impl.Sink{} })})
		}
	}
	for k, b := range breaches() {
		if k%61 == 0 {
			list = append(list, nodeBreach{"Holding with " + b.what, edited(n, func(n *impl.Node) { n.Holding = b.broken })})
		}
	}
	return list
}

func logBreaches(n impl.Node) []nodeBreach {
	list := []nodeBreach{}
	log := func(what, log string) {
		list = append(list, nodeBreach{"Log " + what, edited(n, func(n *impl.Node) { n.Log = log })})
	}
	frame, older := framedByHand(showRecordByHand(n.Record)), framedByHand("record 0 3 0 0")
	log("is empty", "")
	log("is no frame", "record 0 3 0 0\n")
	log("has no record", framedByHand("a b"))
	log("is torn", n.Log[:len(n.Log)-1])
	log("has an older record last", n.Log+older)
	log("begins with another byte", "x"+n.Log)
	log("has what is no frame between", older+"x"+frame)
	log("is too long", paddedLog(40001, n.Record))
	log("is far too long", n.Log+strings.Repeat("z", 1<<17))
	log("has the record past MaxFrames", strings.Repeat(framedByHand(""), 2000)+frame)
	if n.Up {
		for _, behind := range []string{"x", "\n", " ", "0", frame[:1], frame[:len(frame)-1], older[:20], framedByHand("a b"), framedByHand("")} {
			log(fmt.Sprintf("has %q behind it", behind), n.Log+behind)
		}
	}
	r := n.Record
	for _, other := range []impl.Record{{}, {Epoch: r.Epoch + 1, State: r.State, Tried: r.Tried, Seen: r.Seen}, {Epoch: r.Epoch - 1, State: r.State, Tried: r.Tried, Seen: r.Seen}, {Epoch: r.Epoch, State: 1 + r.State%3, Tried: r.Tried, Seen: r.Seen}, {Epoch: r.Epoch, State: 0, Tried: r.Tried, Seen: r.Seen}, {Epoch: r.Epoch, State: r.State, Tried: r.Tried + 1, Seen: r.Seen}, {Epoch: r.Epoch, State: r.State, Tried: r.Tried, Seen: r.Seen - 1}, {State: impl.StOther}} {
		list = append(list, nodeBreach{fmt.Sprint("Record ", other), edited(n, func(n *impl.Node) { n.Record, n.Copier, n.Sink = other, impl.Copier{}, impl.Sink{} })})
	}
	for k, other := range notRecords() {
		if k%4 == 0 {
			list = append(list, nodeBreach{fmt.Sprint("Record, and the one in Log, ", other), edited(n, func(n *impl.Node) {
				n.Record, n.Log, n.Copier, n.Sink = other, framedByHand(showRecordByHand(other)), impl.Copier{}, impl.Sink{}
			})})
		}
	}
	return list
}

func copierAndSinkBreaches(n impl.Node) []nodeBreach {
	list := []nodeBreach{}
	copier := func(what string, c impl.Copier) {
		list = append(list, nodeBreach{"Copier " + what, withCopier(n, c)})
	}
	sink := func(what string, s impl.Sink) {
		list = append(list, nodeBreach{"Sink " + what, withSink(n, s)})
	}
	r, blocks := n.Record, len(n.Disk.Now)
	for _, try := range []int64{r.Tried - 1, r.Tried + 1, r.Seen, r.Epoch, 0, 1, -1, 100000, 100001} {
		if try != r.Tried || r.State == impl.StOther || !n.Up {
			copier(fmt.Sprint("of try ", try), copierShape("dirty", blocks, try))
		}
		if try != r.Seen || r.State != impl.StOther || !n.Up {
			sink(fmt.Sprint("of try ", try), sinkOf(try, ramp(blocks, 3)...))
		}
	}
	for other := range 10 {
		if other != blocks {
			copier(fmt.Sprint("of so many blocks: ", other), copierOf(r.Tried, false, 0, 0, ramp(other, 3)...))
			sink(fmt.Sprint("of so many blocks: ", other), sinkOf(r.Seen, ramp(other, 3)...))
		}
	}
	copier("with a set of more", copierOf(r.Tried, true, 1<<blocks, 0, ramp(blocks, 3)...))
	copier("that waits for more", copierOf(r.Tried, true, 0, 1<<blocks, ramp(blocks, 3)...))
	copier("with a Turn too great", copierOf(r.Tried, true, 0, 0, filled(blocks, impl.MaxTurn+1)...))
	copier("that is Open alone", copierOf(0, true, 0, 0))
	copier("that is Dirty alone", copierOf(0, false, 1, 0))
	copier("that Waits alone", copierOf(0, false, 0, 1))
	copier("with Turns alone", copierOf(0, false, 0, 0, make([]int64, blocks)...))
	sink("with a Turn too great", sinkOf(r.Seen, filled(blocks, impl.MaxTurn+1)...))
	sink("with a Turn below 0", sinkOf(r.Seen, filled(blocks, -1)...))
	sink("with Turns alone", sinkOf(0, make([]int64, blocks)...))
	return list
}

func nodeBreaches() []nodeBreach {
	list := []nodeBreach{}
	for _, blocks := range []int{1, 3, 8} {
		for _, state := range threeStates {
			n := nodeOf(1, blocks, impl.Record{Epoch: 4, State: state, Tried: 6, Seen: 9})
			if state == impl.StOther {
				n.Sink = sinkOf(9, ramp(blocks, 3)...)
			} else {
				n.Copier = copierShape("clean", blocks, 6)
			}
			down := fallenByHand(n, 0)
			list = append(list, slices.Concat(idAndStoreBreaches(n), logBreaches(n), copierAndSinkBreaches(n), logBreaches(down), copierAndSinkBreaches(down))...)
		}
	}
	return list
}

// eachLetter goes through a Msg of each kind to this house, with the Try and the Epoch given.
func eachLetter(to, try, epoch int64, see func(impl.Msg)) {
	for kind := int64(1); kind <= 8; kind++ {
		m := impl.Msg{To: to, Kind: kind, Try: try, At: 0, Turn: 3, Value: 77, Epoch: epoch}
		if kind == impl.MsHand {
			m.Holding = held(3, 2, 4, 0, 0, 9, 1)
		}
		see(m)
	}
}

func TestOfNoNode(t *testing.T) {
	for _, b := range nodeBreaches() {
		if nodeOkByHand(b.n) {
			t.Fatalf("%s: %s is right by hand", b.what, showNode(b.n))
		}
		if impl.NodeOk(b.n) {
			t.Errorf("%s: %s is right", b.what, showNode(b.n))
		}
		wantAsked(t, b.n, 1, bytesOf(readOf(0)), impl.Node{}, impl.Answer{Status: impl.SaNone})
		wantAsked(t, b.n, 4, "", impl.Node{}, impl.Answer{Status: impl.SaNone})
		for kind := int64(0); kind <= 7; kind++ {
			wantNodeTold(t, b.n, kind, kind%2, impl.Node{}, nil, false)
		}
		eachLetter(b.n.Id, b.n.Record.Tried, b.n.Record.Epoch, func(m impl.Msg) { wantNodeHeard(t, b.n, m, 0, impl.Node{}, nil, false) })
		eachLetter(b.n.Id, b.n.Record.Seen+1, b.n.Record.Epoch, func(m impl.Msg) { wantNodeHeard(t, b.n, m, 1, impl.Node{}, nil, false) })
		for _, set := range []int64{0, 255, 256} {
			wantFallen(t, b.n, set, impl.Node{}, false)
		}
		wantRisen(t, b.n, impl.Node{}, false)
	}
}

// Torn below 0 is refused whatever else there is, also of what is not Up.
func TestTornBelowNought(t *testing.T) {
	for _, n := range rightNodes() {
		for _, torn := range []int64{-1, -2, math.MinInt64} {
			for kind := int64(0); kind <= 7; kind++ {
				wantNodeTold(t, n, kind, torn, impl.Node{}, nil, false)
			}
			eachLetter(n.Id, n.Record.Seen, n.Record.Epoch, func(m impl.Msg) { wantNodeHeard(t, n, m, torn, impl.Node{}, nil, false) })
			wantNodeHeard(t, n, impl.Msg{}, torn, impl.Node{}, nil, false)
		}
	}
}

// notCmdBytes have each code of ReadCmd but CdOk.
var notCmdBytes = []struct {
	bytes string
	code  string
}{
	{"", "1"},
	{"\x01\x00\x00\x00\x00\x00\x00", "1"},
	{"\x01\x00\x00\x00\x00\x00\x00\xfe\x00", "2"},
	{strings.Repeat("\x01", 300), "2"},
	{"\x01\x00\x00\x00\x00\x00\x00\xff", "3"},
	{"\x00\x00\x00\x00\x00\x00\x00\xff", "4"},
	{"\x0d\x00\x00\x00\x00\x00\x00\xf2", "4"},
	{"\x01\x00\x00\x01\x00\x00\x00\xfd", "5"},
}

// Which comes first: it is not Up, who is none, no command, and who owns.
func TestAskedOfWhatIsRefused(t *testing.T) {
	for _, state := range threeStates {
		n := nodeOf(1, 3, impl.Record{Epoch: 4, State: state, Tried: 6, Seen: 6})
		down := fallenByHand(n, 0)
		right := bytesOf(readOf(0))
		for who := int64(0); who < 4; who++ {
			wantAsked(t, down, who, right, down, impl.Answer{Status: impl.SaNone})
			switch state {
			case impl.StHanding:
				wantAsked(t, n, who, right, n, impl.Answer{Status: impl.SaBusy})
			case impl.StOther:
				wantAsked(t, n, who, right, n, impl.Answer{Status: impl.SaMoved})
			}
			for _, one := range notCmdBytes {
				wantAsked(t, n, who, one.bytes, n, impl.Answer{Status: impl.SaBad, Text: one.code})
				wantAsked(t, down, who, one.bytes, down, impl.Answer{Status: impl.SaNone})
			}
		}
		for _, who := range notPeople {
			wantAsked(t, n, who, right, n, impl.Answer{Status: impl.SaNone})
			wantAsked(t, n, who, "", n, impl.Answer{Status: impl.SaNone})
			wantAsked(t, down, who, right, down, impl.Answer{Status: impl.SaNone})
		}
	}
}

// What was changed is Marked, and nothing else is: with each Copier that there may be, by who may and who may not.
func TestAskedWrittenOut(t *testing.T) {
	for _, shape := range copierShapes {
		n := withCopier(nodeOf(0, 3, impl.Record{Epoch: 4, State: impl.StOwner, Tried: 6}), copierShape(shape, 3, 6))
		for _, one := range []struct {
			what   string
			who    int64
			c      impl.Cmd
			now    []int64
			marked int64
			a      impl.Answer
		}{
			{"OpRead", 1, readOf(2), []int64{50, 51, 52}, -1, impl.Answer{Text: "52"}},
			{"OpRead out of range", 1, readOf(3), []int64{50, 51, 52}, -1, impl.Answer{Status: impl.SaRange}},
			{"OpRead of who may not", 2, readOf(2), []int64{50, 51, 52}, -1, impl.Answer{Status: impl.SaConflict}},
			{"OpWrite", 1, writeOf(1, 9), []int64{50, 9, 52}, 1, impl.Answer{}},
			{"OpWrite of what is there", 1, writeOf(1, 51), []int64{50, 51, 52}, 1, impl.Answer{}},
			{"OpWrite at the last", 1, writeOf(2, 9999), []int64{50, 51, 9999}, 2, impl.Answer{}},
			{"OpWrite out of range", 1, writeOf(3, 9), []int64{50, 51, 52}, -1, impl.Answer{Status: impl.SaRange}},
			{"OpWrite of too much", 1, writeOf(1, 10000), []int64{50, 51, 52}, -1, impl.Answer{Status: impl.SaRange}},
			{"OpWrite of who may not", 0, writeOf(1, 9), []int64{50, 51, 52}, -1, impl.Answer{Status: impl.SaConflict}},
			{"OpSwap", 1, swapOf(0, 50, 8), []int64{8, 51, 52}, 0, impl.Answer{}},
			{"OpSwap of another value", 1, swapOf(0, 51, 8), []int64{50, 51, 52}, -1, impl.Answer{Status: impl.SaUnlike, Text: "50"}},
			{"OpSwap of who may not", 3, swapOf(0, 50, 8), []int64{50, 51, 52}, -1, impl.Answer{Status: impl.SaConflict}},
			{"OpUnmap", 1, unmapOf(2), []int64{50, 51, 0}, 2, impl.Answer{}},
			{"OpUnmap out of range", 1, unmapOf(255), []int64{50, 51, 52}, -1, impl.Answer{Status: impl.SaRange}},
			{"OpKeys", 3, keysCmd, []int64{50, 51, 52}, -1, impl.Answer{Text: "8 5 7"}},
			{"OpHolder", 3, holderCmd, []int64{50, 51, 52}, -1, impl.Answer{Text: "8 2 7"}},
			{"OpReserve of who may not", 0, reserveOf(1), []int64{50, 51, 52}, -1, impl.Answer{Status: impl.SaConflict}},
		} {
			t.Run(shape+", "+one.what, func(t *testing.T) {
				want := edited(n, func(n *impl.Node) { n.Disk.Now = one.now })
				if one.marked >= 0 && shape != "none" {
					want.Copier.Dirty |= 1 << one.marked
				}
				wantAsked(t, n, one.who, bytesOf(one.c), want, one.a)
			})
		}
		wantAsked(t, n, 1, bytesOf(syncCmd), edited(n, func(n *impl.Node) { n.Disk.Kept = ramp(3, 50) }), impl.Answer{})
		wantAsked(t, n, 3, bytesOf(registerOf(6)), edited(n, func(n *impl.Node) { n.Holding = held(2, 1, 9, 5, 7, 0, 6) }), impl.Answer{})
		wantAsked(t, n, 1, bytesOf(releaseCmd), edited(n, func(n *impl.Node) { n.Holding = held(0, -1, 8, 5, 7, 0, 0) }), impl.Answer{})
		wantAsked(t, n, 0, bytesOf(clearCmd), edited(n, func(n *impl.Node) { n.Holding = held(0, -1, 9, 0, 0, 0, 0) }), impl.Answer{})
		wantAsked(t, n, 0, bytesOf(preemptOf(7, 6)), edited(n, func(n *impl.Node) { n.Holding = held(6, -1, 9, 5, 0, 0, 0) }), impl.Answer{})
	}
}

// An owner answers as DidStore does, each command by each of the four, however it is held.
func TestAskedIsAsTheStore(t *testing.T) {
	r := impl.Record{Epoch: 4, State: impl.StOwner, Tried: 6}
	eachStore(func(s impl.Store) {
		for k, c := range allCmds() {
			for who := range int64(4) {
				n := nodeOf(0, 3, r)
				n.Disk, n.Holding = s.Disk, s.Holding
				n.Copier = copierShape(copierShapes[k%len(copierShapes)], 3, 6)
				after, a := impl.DidStore(s, who, c)
				got, told := impl.Asked(n, who, bytesOf(c))
				if told != a || !sameStore(storeOf(got.Disk, got.Holding), after) || got.Record != r || got.Log != n.Log || !got.Up {
					t.Fatalf("Asked(%s, %d, %v) = %s, %v, not %v, %v", showNode(n), who, c, showNode(got), told, after, a)
				}
			}
		}
	})
}

func TestAskedOfEachNode(t *testing.T) {
	for _, n := range rightNodes() {
		for _, c := range allCmds() {
			wantAskedByHand(t, n, 1, bytesOf(c))
		}
		for _, one := range notCmdBytes {
			wantAskedByHand(t, n, 1, one.bytes)
		}
	}
}

func TestFallenWrittenOut(t *testing.T) {
	owner := withCopier(nodeOf(0, 3, impl.Record{Epoch: 4, State: impl.StOwner, Tried: 6}), copierShape("waits", 3, 6))
	other := withSink(nodeOf(1, 3, impl.Record{Epoch: 4, State: impl.StOther, Seen: 6}), sinkOf(6, 3, 4, 5))
	for _, n := range []impl.Node{owner, other} {
		for _, one := range []struct {
			set  int64
			left []int64
		}{
			{0, []int64{5, 6, 7}}, {1, []int64{50, 6, 7}}, {2, []int64{5, 51, 7}}, {5, []int64{50, 6, 52}}, {7, []int64{50, 51, 52}}, {8, []int64{5, 6, 7}}, {248, []int64{5, 6, 7}}, {255, []int64{50, 51, 52}},
		} {
			want := impl.Node{Id: n.Id, Disk: diskOf(one.left, one.left), Holding: n.Holding, Log: n.Log, Record: n.Record}
			wantFallen(t, n, one.set, want, true)
			wantFallen(t, want, one.set, want, false)
		}
		for _, set := range []int64{-1, 256, 257, 1 << 32, math.MaxInt64, math.MinInt64} {
			wantFallen(t, n, set, n, false)
			wantFallen(t, fallenByHand(n, 0), set, fallenByHand(n, 0), false)
		}
	}
}

func TestRisenWrittenOut(t *testing.T) {
	for _, state := range threeStates {
		n := nodeOf(1, 3, impl.Record{Epoch: 4, State: state, Tried: 6, Seen: 6})
		wantRisen(t, n, n, false)
		down := edited(n, func(n *impl.Node) { n.Up = false })
		wantRisen(t, down, n, true)
		frame := framedByHand("record 5 1 7 7")
		for torn := 1; torn <= len(frame); torn++ {
			wantRisen(t, edited(down, func(n *impl.Node) { n.Log += frame[:len(frame)-torn] }), n, true)
		}
		for _, behind := range []string{"x", "\n", framedByHand("a b"), framedByHand("") + framedByHand("c"), "x" + frame, framedByHand("a b") + frame[:9]} {
			wantRisen(t, edited(down, func(n *impl.Node) { n.Log += behind }), n, true)
		}
	}
}

// Each set, each State, each Copier and Sink: what falls and rises has its Record, its Holding and its Log, and what was kept.
func TestFallenAndRisenOfEachNode(t *testing.T) {
	for _, n := range rightNodes() {
		for set := int64(-1); set <= 256; set += 1 + (set+1)%7 {
			isSet := set >= 0 && set <= 255
			want := n
			if n.Up && isSet {
				want = fallenByHand(n, set)
			}
			wantFallen(t, n, set, want, n.Up && isSet)
		}
		want := edited(n, func(n *impl.Node) { _, n.Log, _ = recalledByHand(n.Log); n.Up = true })
		wantRisen(t, n, want, !n.Up)
		if !impl.NodeOk(want) {
			t.Errorf("%s is not right", showNode(want))
		}
	}
}

// thrownRecord has Epochs and tries near each other, so that they are often alike.
func thrownRecord(source *rand.Rand) impl.Record {
	base := []int64{0, 1, 5, 99999}[source.Intn(4)]
	near := func() int64 { return min(100000, base+source.Int63n(3)) }
	return impl.Record{Epoch: near(), State: 1 + source.Int63n(3), Tried: near(), Seen: near()}
}

// thrownNode is mostly right.
func thrownNode(source *rand.Rand) impl.Node {
	n := nodeOf(source.Int63n(2), 1+source.Intn(8), thrownRecord(source))
	blocks, r := len(n.Disk.Now), n.Record
	if source.Intn(2) == 0 && r.State != impl.StOther && r.Tried > 0 {
		n.Copier = copierShape(copierShapes[source.Intn(len(copierShapes))], blocks, r.Tried)
	}
	if source.Intn(2) == 0 && r.State == impl.StOther && r.Seen > 0 {
		n.Sink = sinkOf(r.Seen, ramp(blocks, source.Int63n(5))...)
	}
	switch source.Intn(30) {
	case 0:
		n.Id = thrownNear(source, 0, 1)
	case 1:
		n.Disk = thrownDisk(source)
	case 2:
		n.Holding = thrownHolding(source)
	case 3:
		n.Record = thrownRecord(source)
	case 4:
		n.Copier = thrownCopier(source)
	case 5:
		n.Sink = thrownSink(source)
	case 6:
		n.Up = false
	case 7:
		n = fallenByHand(n, 0)
		n.Log += n.Log[:source.Intn(len(n.Log))]
	case 8:
		at := source.Intn(len(n.Log))
		n.Log = n.Log[:at] + "7" + n.Log[at+1:]
	}
	return n
}
