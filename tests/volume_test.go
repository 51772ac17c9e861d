package tests

import (
	"fmt"
	"math/rand"
	"slices"
	"strings"
	"testing"

	"loop.example/g00354/impl"
)

func diskOkByHand(d impl.Disk) bool {
	for _, value := range slices.Concat(d.Kept, d.Now) {
		if value < 0 || value > 9999 {
			return false
		}
	}
	return len(d.Kept) > 0 && len(d.Kept) < 9 && len(d.Kept) == len(d.Now)
}

// didByHand tells the chapter a second time, by the number of the Op.
func didByHand(d impl.Disk, c impl.Cmd) (impl.Disk, impl.Answer) {
	if !diskOkByHand(d) {
		return impl.Disk{}, impl.Answer{Status: 7}
	}
	d = cloneDisk(d)
	switch {
	case !cmdOkByHand(c) || c.Op > 5:
		return d, impl.Answer{Status: 7}
	case c.Op == 5:
		return impl.Disk{Kept: slices.Clone(d.Now), Now: d.Now}, impl.Answer{}
	case int(c.At) >= len(d.Now) || c.Op == 2 && c.A >= 10000 || c.Op == 3 && c.B >= 10000:
		return d, impl.Answer{Status: 1}
	case c.Op == 1:
		return d, impl.Answer{Text: fmt.Sprint(d.Now[c.At])}
	case c.Op == 3 && c.A != d.Now[c.At]:
		return d, impl.Answer{Status: 2, Text: fmt.Sprint(d.Now[c.At])}
	}
	d.Now[c.At] = []int64{2: c.A, 3: c.B, 4: 0}[c.Op]
	return d, impl.Answer{}
}

func wantDid(t *testing.T, d impl.Disk, c impl.Cmd, want impl.Disk, status int64, text string) {
	t.Helper()
	if got, a := impl.DidDisk(d, c); !sameDisk(got, want) || a.Status != status || a.Text != text {
		t.Errorf("DidDisk(%v, %v) = %v, %d %q, not %v, %d %q", d, c, got, a.Status, a.Text, want, status, text)
	}
}

func wantDidByHand(t *testing.T, d impl.Disk, c impl.Cmd) {
	t.Helper()
	want, a := didByHand(d, c)
	wantDid(t, d, c, want, a.Status, a.Text)
}

// wantAsItIs wants the same disk and a code that tells no value.
func wantAsItIs(t *testing.T, d impl.Disk, c impl.Cmd, status int64) {
	t.Helper()
	wantDid(t, d, c, d, status, "")
}

func readOf(at int64) impl.Cmd           { return impl.Cmd{Op: impl.OpRead, At: at} }
func writeOf(at, a int64) impl.Cmd       { return impl.Cmd{Op: impl.OpWrite, At: at, A: a} }
func swapOf(at, a, b int64) impl.Cmd     { return impl.Cmd{Op: impl.OpSwap, At: at, A: a, B: b} }
func unmapOf(at int64) impl.Cmd          { return impl.Cmd{Op: impl.OpUnmap, At: at} }
func diskOf(kept, now []int64) impl.Disk { return impl.Disk{Kept: kept, Now: now} }

// someDisks are right ones of each size: loose, flushed, of noughts, of the greatest.
func someDisks() []impl.Disk {
	disks := []impl.Disk{}
	for n := 1; n <= 8; n++ {
		disks = append(disks, rampDisk(n), diskOf(ramp(n, 5), ramp(n, 5)),
			diskOf(filled(n, 0), filled(n, 0)), diskOf(filled(n, 0), filled(n, 9999)),
			diskOf(filled(n, 9999), filled(n, 0)), diskOf(ramp(n, 9990), filled(n, 9999)))
	}
	return disks
}

var rightValues = []int64{0, 1, 7, 50, 53, 57, 255, 256, 5000, 9998, 9999}

// Above MaxValue, but right in a command.
var wordsNoValue = []int64{10000, 10001, 16384, 32767, 32768, 65534, 65535}

// notCmds are commands of which one thing is wrong: no Op, a field that is not told, or one out of range.
func notCmds() []impl.Cmd {
	list := []impl.Cmd{}
	for _, f := range cmdForms() {
		for _, c := range []impl.Cmd{f.least(), f.most()} {
			for _, op := range notOps {
				none := c
				none.Op = op
				list = append(list, none)
			}
			for field := range 4 {
				for _, n := range append([]int64{1, 2, 7, 256, 10000}, farFields...) {
					if turned := withField(c, field, n); !cmdOkByHand(turned) {
						list = append(list, turned)
					}
				}
			}
		}
	}
	return list
}

// smallCmds are right ones of each Op that fit the blocks of a small disk, or just do not.
func smallCmds() []impl.Cmd {
	list := []impl.Cmd{}
	for _, f := range cmdForms() {
		list = append(list, f.least(), f.most())
	}
	for _, at := range []int64{0, 1, 2, 3, 7, 8, 9, 255} {
		list = append(list, readOf(at), unmapOf(at))
		for _, a := range []int64{0, 1, 50, 9999, 10000, 65535} {
			list = append(list, writeOf(at, a))
			for _, b := range []int64{0, 1, 9999, 10000, 65535} {
				list = append(list, swapOf(at, a, b))
			}
		}
	}
	return list
}

func TestStatusNames(t *testing.T) {
	for k, status := range []int64{impl.SaGood, impl.SaRange, impl.SaUnlike, impl.SaConflict, impl.SaBad, impl.SaBusy, impl.SaMoved, impl.SaNone} {
		if status != int64(k) {
			t.Errorf("status %d is %d", k, status)
		}
	}
}

func TestDidDiskWrittenOut(t *testing.T) {
	kept, now := []int64{1, 2, 3}, []int64{1, 9999, 0}
	d := diskOf(kept, now)
	for _, one := range []struct {
		c      impl.Cmd
		want   impl.Disk
		status int64
		text   string
	}{
		{readOf(0), d, impl.SaGood, "1"},
		{readOf(1), d, impl.SaGood, "9999"},
		{readOf(2), d, impl.SaGood, "0"},
		{readOf(3), d, impl.SaRange, ""},
		{readOf(255), d, impl.SaRange, ""},
		{writeOf(0, 0), diskOf(kept, []int64{0, 9999, 0}), impl.SaGood, ""},
		{writeOf(0, 1), d, impl.SaGood, ""},
		{writeOf(2, 9999), diskOf(kept, []int64{1, 9999, 9999}), impl.SaGood, ""},
		{writeOf(2, 10000), d, impl.SaRange, ""},
		{writeOf(2, 65535), d, impl.SaRange, ""},
		{writeOf(3, 0), d, impl.SaRange, ""},
		{writeOf(3, 10000), d, impl.SaRange, ""},
		{swapOf(0, 1, 7), diskOf(kept, []int64{7, 9999, 0}), impl.SaGood, ""},
		{swapOf(0, 1, 9999), diskOf(kept, []int64{9999, 9999, 0}), impl.SaGood, ""},
		{swapOf(1, 9999, 0), diskOf(kept, []int64{1, 0, 0}), impl.SaGood, ""},
		{swapOf(1, 9999, 9999), d, impl.SaGood, ""},
		{swapOf(2, 0, 0), d, impl.SaGood, ""},
		{swapOf(0, 2, 7), d, impl.SaUnlike, "1"},
		{swapOf(0, 2, 2), d, impl.SaUnlike, "1"},
		{swapOf(0, 2, 1), d, impl.SaUnlike, "1"},
		{swapOf(1, 2, 7), d, impl.SaUnlike, "9999"},
		{swapOf(1, 65535, 7), d, impl.SaUnlike, "9999"},
		{swapOf(2, 3, 7), d, impl.SaUnlike, "0"},
		{swapOf(2, 10000, 9999), d, impl.SaUnlike, "0"},
		{swapOf(0, 1, 10000), d, impl.SaRange, ""},
		{swapOf(0, 2, 10000), d, impl.SaRange, ""},
		{swapOf(0, 10000, 10000), d, impl.SaRange, ""},
		{swapOf(3, 0, 0), d, impl.SaRange, ""},
		{swapOf(3, 0, 10000), d, impl.SaRange, ""},
		{unmapOf(0), diskOf(kept, []int64{0, 9999, 0}), impl.SaGood, ""},
		{unmapOf(1), diskOf(kept, []int64{1, 0, 0}), impl.SaGood, ""},
		{unmapOf(2), d, impl.SaGood, ""},
		{unmapOf(3), d, impl.SaRange, ""},
		{impl.Cmd{Op: impl.OpSync}, diskOf(now, now), impl.SaGood, ""},
		{impl.Cmd{Op: impl.OpRegister, A: 1}, d, impl.SaNone, ""},
		{impl.Cmd{Op: impl.OpReserve, Kind: 1}, d, impl.SaNone, ""},
		{impl.Cmd{Op: impl.OpRelease}, d, impl.SaNone, ""},
		{impl.Cmd{Op: impl.OpClear}, d, impl.SaNone, ""},
		{impl.Cmd{Op: impl.OpPreempt, A: 1, B: 1, Kind: 1}, d, impl.SaNone, ""},
		{impl.Cmd{Op: impl.OpKeys}, d, impl.SaNone, ""},
		{impl.Cmd{Op: impl.OpHolder}, d, impl.SaNone, ""},
		{impl.Cmd{}, d, impl.SaNone, ""},
		{impl.Cmd{Op: impl.OpRead, At: 1, A: 1}, d, impl.SaNone, ""},
		{impl.Cmd{Op: impl.OpWrite, At: 256, A: 1}, d, impl.SaNone, ""},
		{impl.Cmd{Op: impl.OpWrite, At: 1, A: 65536}, d, impl.SaNone, ""},
		{impl.Cmd{Op: impl.OpSync, At: 1}, d, impl.SaNone, ""},
	} {
		wantDid(t, d, one.c, one.want, one.status, one.text)
	}
}

// writesOf are commands of a block, each of which leaves this value there.
func writesOf(d impl.Disk, at int64, value int64) []impl.Cmd {
	list := []impl.Cmd{writeOf(at, value), swapOf(at, d.Now[at], value)}
	if value == 0 {
		list = append(list, unmapOf(at))
	}
	return list
}

// Promise 11, the first half: it is read, not yet kept, and no other block is another one.
func TestWhatWasWrittenIsRead(t *testing.T) {
	for _, d := range someDisks() {
		for at := range int64(len(d.Now)) {
			for _, value := range rightValues {
				for _, c := range writesOf(d, at, value) {
					want := cloneDisk(d)
					want.Now[at] = value
					wantDid(t, d, c, want, impl.SaGood, "")
					after, _ := impl.DidDisk(d, c)
					wantDid(t, after, readOf(at), want, impl.SaGood, fmt.Sprint(value))
					wantDid(t, after, impl.Cmd{Op: impl.OpSync}, diskOf(want.Now, want.Now), impl.SaGood, "")
				}
			}
		}
	}
}

// Promise 11, the second half: where it was another one all is as it is, and what was there is told.
func TestSwapOfWhatIsNotThere(t *testing.T) {
	for _, d := range someDisks() {
		for at, there := range d.Now {
			for _, a := range slices.Concat(wordsNoValue, rightValues, []int64{there - 1, there + 1, d.Kept[at]}) {
				if a == there || a < 0 {
					continue
				}
				for _, b := range append([]int64{a % 10000, there}, rightValues...) {
					wantDid(t, d, swapOf(int64(at), a, b), d, impl.SaUnlike, fmt.Sprint(there))
				}
			}
		}
	}
}

// What can not be written is out of range, be it what is there or not.
func TestWhatIsAboveMaxValueIsNotWritten(t *testing.T) {
	for _, d := range someDisks() {
		for at, there := range d.Now {
			for _, word := range wordsNoValue {
				wantAsItIs(t, d, writeOf(int64(at), word), impl.SaRange)
				for _, a := range []int64{there, (there + 1) % 10000, 0, 9999, word, 65535} {
					wantAsItIs(t, d, swapOf(int64(at), a, word), impl.SaRange)
				}
			}
		}
	}
}

func TestSwapOfTheSame(t *testing.T) {
	for _, d := range someDisks() {
		for at, there := range d.Now {
			wantAsItIs(t, d, swapOf(int64(at), there, there), impl.SaGood)
		}
	}
}

func TestAtIsNoBlock(t *testing.T) {
	for _, d := range someDisks() {
		for at := int64(len(d.Now)); at <= 255; at++ {
			for _, c := range []impl.Cmd{readOf(at), unmapOf(at), writeOf(at, 0), writeOf(at, 9999), writeOf(at, 10000), swapOf(at, 0, 0), swapOf(at, 0, 9999), swapOf(at, 9999, 1), swapOf(at, 1, 10000)} {
				wantAsItIs(t, d, c, impl.SaRange)
			}
		}
	}
}

// What is not flushed is read too, and reading keeps nothing.
func TestEachBlockIsRead(t *testing.T) {
	eachDisk(func(d impl.Disk) {
		for at, value := range d.Now {
			wantDid(t, d, readOf(int64(at)), d, impl.SaGood, fmt.Sprint(value))
		}
	})
}

func TestSyncKeepsAll(t *testing.T) {
	eachDisk(func(d impl.Disk) {
		wantDid(t, d, impl.Cmd{Op: impl.OpSync}, diskOf(d.Now, d.Now), impl.SaGood, "")
	})
}

func TestOtherOpsOfADisk(t *testing.T) {
	for _, d := range someDisks() {
		for _, f := range cmdForms()[5:] {
			wantAsItIs(t, d, f.least(), impl.SaNone)
			wantAsItIs(t, d, f.most(), impl.SaNone)
		}
	}
}

func TestDidDiskOfNoCmd(t *testing.T) {
	for _, d := range []impl.Disk{rampDisk(1), rampDisk(3), rampDisk(8), diskOf(filled(8, 0), filled(8, 9999))} {
		for _, c := range notCmds() {
			wantAsItIs(t, d, c, impl.SaNone)
		}
	}
}

func TestDidDiskOfNoDisk(t *testing.T) {
	cmds := append(smallCmds(), impl.Cmd{}, impl.Cmd{Op: 13}, impl.Cmd{Op: impl.OpRead, At: -1}, impl.Cmd{Op: impl.OpSync, A: 1})
	for _, d := range append(notDisks(), impl.Disk{}) {
		for _, c := range cmds {
			wantDid(t, d, c, impl.Disk{}, impl.SaNone, "")
		}
	}
}

func TestEachCmdOfADisk(t *testing.T) {
	for _, d := range someDisks() {
		for _, c := range smallCmds() {
			wantDidByHand(t, d, c)
		}
	}
	eachCmd(func(c impl.Cmd) { wantDidByHand(t, rampDisk(8), c) })
}

// thrownDisk is mostly right, and often has few values, so that a swap meets what is there.
func thrownDisk(source *rand.Rand) impl.Disk {
	n := 1 + source.Intn(8)
	list := func() []int64 {
		values := make([]int64, n)
		for i := range values {
			values[i] = []int64{0, 1, 2, 9999, source.Int63n(10000)}[source.Intn(5)]
		}
		return values
	}
	d := diskOf(list(), list())
	switch source.Intn(16) {
	case 0:
		d.Now[source.Intn(n)] = notValues[source.Intn(len(notValues))]
	case 1:
		d.Kept[source.Intn(n)] = notValues[source.Intn(len(notValues))]
	case 2:
		d.Now = d.Now[1:]
	case 3:
		d.Kept = append(d.Kept, 0)
	}
	return d
}

// thrownBlockCmd is mostly one of blocks.
func thrownBlockCmd(source *rand.Rand) impl.Cmd {
	value := func() int64 { return []int64{0, 1, 2, 9999, 10000, 65535, source.Int63n(65536)}[source.Intn(7)] }
	c := impl.Cmd{Op: 1 + source.Int63n(5), At: source.Int63n(9)}
	if c.Op == impl.OpWrite || c.Op == impl.OpSwap {
		c.A = value()
	}
	if c.Op == impl.OpSwap {
		c.B = value()
	}
	if c.Op == impl.OpSync {
		c.At = 0
	}
	switch source.Intn(12) {
	case 0:
		c = withField(c, source.Intn(4), farFields[source.Intn(len(farFields))])
	case 1:
		c = withField(c, source.Intn(4), value())
	case 2:
		c.Op = source.Int63n(15) - 1
	}
	return c
}

func TestDidDiskThrown(t *testing.T) {
	source := rand.New(rand.NewSource(11))
	for range 200000 {
		wantDidByHand(t, thrownDisk(source), thrownBlockCmd(source))
	}
}

// One command behind another: what is read is what was written last, and power takes what was not synced.
func TestCmdsInARow(t *testing.T) {
	source := rand.New(rand.NewSource(12))
	for n := int64(1); n <= 8; n++ {
		d, _ := impl.NewDisk(n)
		byHand := cloneDisk(d)
		for step := range 5000 {
			c := thrownBlockCmd(source)
			got, a := impl.DidDisk(d, c)
			want, b := didByHand(byHand, c)
			if !sameDisk(got, want) || a != b {
				t.Fatalf("step %d: %v of %v = %v, %v, not %v, %v", step, c, byHand, got, a, want, b)
			}
			if !impl.DiskOk(got) {
				t.Fatalf("step %d: %v of %v leaves no disk: %v", step, c, byHand, got)
			}
			d, byHand = got, want
			if step%97 == 0 {
				d, byHand = impl.Lost(d, 0), diskOf(byHand.Kept, slices.Clone(byHand.Kept))
			}
		}
	}
}

// Text stands with a value alone: with SaGood of OpRead and with SaUnlike.
func TestTextTellsAValueAlone(t *testing.T) {
	for _, d := range append(someDisks(), notDisks()[:20]...) {
		for _, c := range append(smallCmds(), notCmds()[:200]...) {
			_, a := impl.DidDisk(d, c)
			tells := a.Status == impl.SaUnlike || a.Status == impl.SaGood && c.Op == impl.OpRead
			if tells != (a.Text != "") || a.Text != strings.TrimSpace(a.Text) {
				t.Errorf("DidDisk(%v, %v) tells %d %q", d, c, a.Status, a.Text)
			}
			if a.Status != impl.SaGood && a.Status != impl.SaRange && a.Status != impl.SaUnlike && a.Status != impl.SaNone {
				t.Errorf("DidDisk(%v, %v) tells %d", d, c, a.Status)
			}
		}
	}
}

func wantReadsWrites(t *testing.T, c impl.Cmd, reads, writes bool) {
	t.Helper()
	if got := impl.Reads(c); got != reads {
		t.Errorf("Reads(%v) = %v", c, got)
	}
	if got := impl.Writes(c); got != writes {
		t.Errorf("Writes(%v) = %v", c, got)
	}
}

func TestReadsAndWritesOfEachOp(t *testing.T) {
	for k, one := range []struct{ reads, writes bool }{{true, false}, {false, true}, {false, true}, {false, true}, {false, true}, {}, {}, {}, {}, {}, {}, {}} {
		f := cmdForms()[k]
		wantReadsWrites(t, f.least(), one.reads, one.writes)
		wantReadsWrites(t, f.most(), one.reads, one.writes)
	}
	eachCmd(func(c impl.Cmd) { wantReadsWrites(t, c, c.Op == 1, c.Op > 1 && c.Op < 6) })
}

func TestReadsAndWritesOfNoCmd(t *testing.T) {
	for _, c := range append(notCmds(), impl.Cmd{}) {
		wantReadsWrites(t, c, false, false)
	}
}

func TestReadsAndWritesThrown(t *testing.T) {
	source := rand.New(rand.NewSource(13))
	for range 100000 {
		c := thrownBlockCmd(source)
		ok := cmdOkByHand(c)
		wantReadsWrites(t, c, ok && c.Op == 1, ok && slices.Contains([]int64{2, 3, 4, 5}, c.Op))
	}
}

// didCalls are calls of DidDisk with each kind of command: done, out of range, unlike, none.
func didCalls() []diskCall {
	calls := []diskCall{}
	for _, c := range append(smallCmds(), impl.Cmd{}, impl.Cmd{Op: 13}, impl.Cmd{Op: impl.OpRead, At: -1}) {
		calls = append(calls, diskCall{fmt.Sprint("DidDisk by ", c, " of "), func(d impl.Disk) impl.Disk {
			got, _ := impl.DidDisk(d, c)
			return got
		}})
	}
	return calls
}

// Promise 21 for DidDisk: nothing is written into its argument or handed out of it, also where it is as it is.
func TestDidDiskLeavesItsArgument(t *testing.T) { leavesDisks(t, didCalls()) }

func TestKeptAndNowOfDidDiskShareNothing(t *testing.T) { keptApart(t, didCalls()) }

func TestDidDiskOfListsThatShare(t *testing.T) { blindToOverlap(t, didCalls()) }
