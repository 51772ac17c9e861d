package tests

import (
	"encoding/binary"
	"math"
	"math/rand"
	"strings"
	"testing"

	"loop.example/g00354/impl"
)

// A cmdForm is what the chapter says of one Op: from where to where At, A, B and Kind go. What it does not tell goes from 0 to 0.
type cmdForm struct {
	op                int64
	at, a, b, kind    [2]int64
	changes           bool
	tellsAt, tellsA   bool
	tellsB, tellsKind bool
}

func cmdForms() []cmdForm {
	at, word, key := [2]int64{0, 255}, [2]int64{0, 65535}, [2]int64{0, 9999}
	kind := [2]int64{1, 6}
	return []cmdForm{
		{op: 1, at: at, tellsAt: true},
		{op: 2, at: at, tellsAt: true, a: word, tellsA: true, changes: true},
		{op: 3, at: at, tellsAt: true, a: word, tellsA: true, b: word, tellsB: true, changes: true},
		{op: 4, at: at, tellsAt: true, changes: true},
		{op: 5},
		{op: 6, a: key, tellsA: true},
		{op: 7, kind: kind, tellsKind: true},
		{op: 8},
		{op: 9},
		{op: 10, a: key, tellsA: true, b: [2]int64{1, 9999}, tellsB: true, kind: kind, tellsKind: true},
		{op: 11},
		{op: 12},
	}
}

// least is the command of this form with the least of everything.
func (f cmdForm) least() impl.Cmd {
	return impl.Cmd{Op: f.op, At: f.at[0], A: f.a[0], B: f.b[0], Kind: f.kind[0]}
}

func (f cmdForm) most() impl.Cmd {
	return impl.Cmd{Op: f.op, At: f.at[1], A: f.a[1], B: f.b[1], Kind: f.kind[1]}
}

func (f cmdForm) fits(c impl.Cmd) bool {
	for _, one := range [][3]int64{{f.at[0], c.At, f.at[1]}, {f.a[0], c.A, f.a[1]}, {f.b[0], c.B, f.b[1]}, {f.kind[0], c.Kind, f.kind[1]}} {
		if one[1] < one[0] || one[1] > one[2] {
			return false
		}
	}
	return c.Op == f.op
}

func cmdOkByHand(c impl.Cmd) bool {
	for _, f := range cmdForms() {
		if f.fits(c) {
			return true
		}
	}
	return false
}

func changesByHand(c impl.Cmd) bool {
	for _, f := range cmdForms() {
		if f.fits(c) {
			return f.changes
		}
	}
	return false
}

// summed is the 7 bytes with the last one that belongs behind them.
func summed(seven string) string {
	sum := 0
	for _, b := range []byte(seven) {
		sum += int(b)
	}
	return seven + string([]byte{byte(255 - sum%256)})
}

// bytesOf lays the fields out, whether they are right or not.
func bytesOf(c impl.Cmd) string {
	seven := []byte{byte(c.Op), byte(c.At)}
	seven = binary.BigEndian.AppendUint16(seven, uint16(c.A))
	seven = binary.BigEndian.AppendUint16(seven, uint16(c.B))
	return summed(string(append(seven, byte(c.Kind))))
}

func readCmdByHand(s string) (impl.Cmd, int64) {
	if len(s) != 8 {
		if len(s) < 8 {
			return impl.Cmd{}, 1
		}
		return impl.Cmd{}, 2
	}
	if summed(s[:7]) != s {
		return impl.Cmd{}, 3
	}
	if s[0] == 0 || s[0] > 12 {
		return impl.Cmd{}, 4
	}
	b := []byte(s)
	c := impl.Cmd{Op: int64(b[0]), At: int64(b[1]), A: int64(binary.BigEndian.Uint16(b[2:])), B: int64(binary.BigEndian.Uint16(b[4:])), Kind: int64(b[6])}
	if !cmdOkByHand(c) {
		return impl.Cmd{}, 5
	}
	return c, 0
}

func wantCmd(t *testing.T, c impl.Cmd) {
	t.Helper()
	want := bytesOf(c)
	if !impl.CmdOk(c) {
		t.Errorf("CmdOk(%v) = false", c)
	}
	if got := impl.ShowCmd(c); got != want {
		t.Errorf("ShowCmd(%v) = %q, not %q", c, got, want)
	}
	if got, code := impl.ReadCmd(want); got != c || code != impl.CdOk {
		t.Errorf("ReadCmd(%q) = %v, %d, not %v", want, got, code, c)
	}
	if got := impl.Changes(c); got != changesByHand(c) {
		t.Errorf("Changes(%v) = %v", c, got)
	}
}

func wantNoCmd(t *testing.T, c impl.Cmd) {
	t.Helper()
	if impl.CmdOk(c) {
		t.Errorf("CmdOk(%v) = true", c)
	}
	if got := impl.ShowCmd(c); got != "" {
		t.Errorf("ShowCmd(%v) = %q", c, got)
	}
	if impl.Changes(c) {
		t.Errorf("Changes(%v) = true", c)
	}
}

func wantCode(t *testing.T, s string, want int64) {
	t.Helper()
	if c, code := impl.ReadCmd(s); c != (impl.Cmd{}) || code != want {
		t.Errorf("ReadCmd(%.40q of %d bytes) = %v, %d, not %d", s, len(s), c, code, want)
	}
}

func wantReadCmd(t *testing.T, s string) {
	t.Helper()
	want, wantCode := readCmdByHand(s)
	if c, code := impl.ReadCmd(s); c != want || code != wantCode {
		t.Errorf("ReadCmd(%.40q) = %v, %d, not %v, %d", s, c, code, want, wantCode)
	}
}

// edges are some numbers of a range: its ends, those beside them, and those where a byte goes over into two.
func edges(from, to int64) []int64 {
	list := []int64{}
	for _, n := range []int64{from, from + 1, 127, 128, 254, 255, 256, 257, 511, 512, 9998, 32767, 32768, 65280, to - 1, to} {
		if n >= from && n <= to && (len(list) == 0 || n > list[len(list)-1]) {
			list = append(list, n)
		}
	}
	return list
}

// eachCmd goes through each Op with each of the edges of each of its fields.
func eachCmd(see func(impl.Cmd)) {
	for _, f := range cmdForms() {
		for _, at := range edges(f.at[0], f.at[1]) {
			for _, a := range edges(f.a[0], f.a[1]) {
				for _, b := range edges(f.b[0], f.b[1]) {
					for kind := f.kind[0]; kind <= f.kind[1]; kind++ {
						see(impl.Cmd{Op: f.op, At: at, A: a, B: b, Kind: kind})
					}
				}
			}
		}
	}
}

// notOps are no Op, and among them some whose lowest byte is one.
var notOps = []int64{0, -1, 13, 14, 127, 128, 255, 256, 257, 258, 268, -12, -255, -256, 1<<16 + 2, 1 << 32, 1<<32 + 1, 1<<32 + 12, math.MaxInt64, math.MinInt64, math.MinInt64 + 1}

// farFields are out of range of every field, and among them some whose lowest bytes are not.
var farFields = []int64{-1, -2, -255, -256, -65536, 65536, 65537, 1 << 17, 1 << 31, 1 << 32, 1<<32 + 1, 1<<56 + 3, math.MaxInt64, math.MinInt64, math.MinInt64 + 1}

func TestCmdNames(t *testing.T) {
	ops := []int64{impl.OpRead, impl.OpWrite, impl.OpSwap, impl.OpUnmap, impl.OpSync, impl.OpRegister, impl.OpReserve, impl.OpRelease, impl.OpClear, impl.OpPreempt, impl.OpKeys, impl.OpHolder}
	for k, op := range ops {
		if op != int64(k)+1 {
			t.Errorf("Op %d is %d", k+1, op)
		}
	}
	codes := []int64{impl.CdOk, impl.CdShort, impl.CdLong, impl.CdSum, impl.CdOp, impl.CdField}
	for k, code := range codes {
		if code != int64(k) {
			t.Errorf("code %d is %d", k, code)
		}
	}
	if impl.MaxKey != 9999 || impl.KiWrite != 1 || impl.KiAllBoth != 6 {
		t.Error(impl.MaxKey, impl.KiWrite, impl.KiAllBoth)
	}
}

func TestCmdBytesWrittenOut(t *testing.T) {
	for _, one := range []struct {
		c    impl.Cmd
		want string
	}{
		{impl.Cmd{Op: impl.OpRead}, "\x01\x00\x00\x00\x00\x00\x00\xfe"},
		{impl.Cmd{Op: impl.OpRead, At: 255}, "\x01\xff\x00\x00\x00\x00\x00\xff"},
		{impl.Cmd{Op: impl.OpWrite, At: 1, A: 65535}, "\x02\x01\xff\xff\x00\x00\x00\xfe"},
		{impl.Cmd{Op: impl.OpSwap, At: 7, A: 258, B: 772}, "\x03\x07\x01\x02\x03\x04\x00\xeb"},
		{impl.Cmd{Op: impl.OpSwap, At: 255, A: 65535, B: 65535}, "\x03\xff\xff\xff\xff\xff\x00\x01"},
		{impl.Cmd{Op: impl.OpUnmap, At: 128}, "\x04\x80\x00\x00\x00\x00\x00\x7b"},
		{impl.Cmd{Op: impl.OpSync}, "\x05\x00\x00\x00\x00\x00\x00\xfa"},
		{impl.Cmd{Op: impl.OpRegister, A: 9999}, "\x06\x00\x27\x0f\x00\x00\x00\xc3"},
		{impl.Cmd{Op: impl.OpReserve, Kind: impl.KiAllBoth}, "\x07\x00\x00\x00\x00\x00\x06\xf2"},
		{impl.Cmd{Op: impl.OpRelease}, "\x08\x00\x00\x00\x00\x00\x00\xf7"},
		{impl.Cmd{Op: impl.OpClear}, "\x09\x00\x00\x00\x00\x00\x00\xf6"},
		{impl.Cmd{Op: impl.OpPreempt, A: 1, B: 9999, Kind: impl.KiRegWrite}, "\x0a\x00\x00\x01\x27\x0f\x03\xbb"},
		{impl.Cmd{Op: impl.OpKeys}, "\x0b\x00\x00\x00\x00\x00\x00\xf4"},
		{impl.Cmd{Op: impl.OpHolder}, "\x0c\x00\x00\x00\x00\x00\x00\xf3"},
	} {
		if got := impl.ShowCmd(one.c); got != one.want {
			t.Errorf("ShowCmd(%v) = %q, not %q", one.c, got, one.want)
		}
		if got, code := impl.ReadCmd(one.want); got != one.c || code != impl.CdOk {
			t.Errorf("ReadCmd(%q) = %v, %d", one.want, got, code)
		}
	}
}

// Promise 6, the first half.
func TestReadCmdOfShowCmd(t *testing.T) {
	seen := map[string]impl.Cmd{}
	eachCmd(func(c impl.Cmd) {
		wantCmd(t, c)
		s := impl.ShowCmd(c)
		if other, is := seen[s]; is {
			t.Errorf("%v and %v are both shown as %q", c, other, s)
		}
		seen[s] = c
	})
}

// Each value of each field alone, in its range and past it.
func TestCmdEachValueOfEachField(t *testing.T) {
	for _, f := range cmdForms() {
		for n := int64(-2); n <= 65540; n++ {
			for field := range 4 {
				c := withField(f.least(), field, n)
				if f.fits(c) {
					wantCmd(t, c)
				} else {
					wantNoCmd(t, c)
				}
			}
			if t.Failed() {
				return
			}
		}
	}
}

// withField has the field, of At, A, B and Kind, as n.
func withField(c impl.Cmd, field int, n int64) impl.Cmd {
	*[]*int64{&c.At, &c.A, &c.B, &c.Kind}[field] = n
	return c
}

// Promise 6, the second half: the sum tells it, whichever byte it is.
func TestReadCmdOneByteTurned(t *testing.T) {
	list := []impl.Cmd{{Op: 2, At: 3, A: 258}, {Op: 3, At: 8, A: 5, B: 9999}, {Op: 10, A: 7, B: 9, Kind: 4}}
	for _, f := range cmdForms() {
		list = append(list, f.least(), f.most())
	}
	for _, c := range list {
		s := impl.ShowCmd(c)
		if len(s) != 8 {
			t.Fatalf("ShowCmd(%v) = %q", c, s)
		}
		for i := range s {
			for b := range 256 {
				turned := s[:i] + string([]byte{byte(b)}) + s[i+1:]
				if turned != s {
					wantCode(t, turned, impl.CdSum)
				}
			}
		}
	}
}

func TestCmdEdges(t *testing.T) {
	for _, c := range []impl.Cmd{
		{Op: 1, At: 0}, {Op: 1, At: 255}, {Op: 4, At: 0}, {Op: 4, At: 255},
		{Op: 2, At: 0, A: 0}, {Op: 2, At: 255, A: 65535}, {Op: 2, At: 0, A: 65535}, {Op: 2, At: 255, A: 0},
		{Op: 3}, {Op: 3, A: 65535}, {Op: 3, B: 65535}, {Op: 3, At: 255, A: 65535, B: 65535},
		{Op: 6, A: 0}, {Op: 6, A: 9999}, {Op: 7, Kind: 1}, {Op: 7, Kind: 6},
		{Op: 10, A: 0, B: 1, Kind: 1}, {Op: 10, A: 9999, B: 1, Kind: 1}, {Op: 10, A: 0, B: 9999, Kind: 6}, {Op: 10, A: 9999, B: 9999, Kind: 6},
		{Op: 5}, {Op: 8}, {Op: 9}, {Op: 11}, {Op: 12},
	} {
		wantCmd(t, c)
	}
	for _, c := range []impl.Cmd{
		{Op: 1, At: -1}, {Op: 1, At: 256}, {Op: 4, At: -1}, {Op: 4, At: 256}, {Op: 2, At: -1}, {Op: 2, At: 256}, {Op: 3, At: -1}, {Op: 3, At: 256},
		{Op: 2, A: -1}, {Op: 2, A: 65536}, {Op: 3, A: -1}, {Op: 3, A: 65536}, {Op: 3, B: -1}, {Op: 3, B: 65536},
		{Op: 6, A: -1}, {Op: 6, A: 10000}, {Op: 7, Kind: 0}, {Op: 7, Kind: 7}, {Op: 7, Kind: -1},
		{Op: 10, A: -1, B: 1, Kind: 1}, {Op: 10, A: 10000, B: 1, Kind: 1},
		{Op: 10, B: 0, Kind: 1}, {Op: 10, B: -1, Kind: 1}, {Op: 10, B: 10000, Kind: 1}, {Op: 10, B: 1, Kind: 0}, {Op: 10, B: 1, Kind: 7},
	} {
		wantNoCmd(t, c)
	}
}

func TestCmdOfNoOp(t *testing.T) {
	for _, op := range notOps {
		wantNoCmd(t, impl.Cmd{Op: op})
		for _, f := range cmdForms() {
			for _, c := range []impl.Cmd{f.least(), f.most()} {
				c.Op = op
				wantNoCmd(t, c)
			}
		}
	}
}

func TestCmdFieldsFarOut(t *testing.T) {
	for _, f := range cmdForms() {
		for _, c := range []impl.Cmd{f.least(), f.most()} {
			for field := range 4 {
				for _, n := range farFields {
					wantNoCmd(t, withField(c, field, n))
				}
			}
		}
	}
}

// What an Op does not tell must be 0, in the Cmd and in the bytes.
func TestCmdFieldsThatAreNotTold(t *testing.T) {
	for _, f := range cmdForms() {
		for field, told := range []bool{f.tellsAt, f.tellsA, f.tellsB, f.tellsKind} {
			if told {
				continue
			}
			for _, n := range []int64{1, 2, 6, 7, 255, 256, 9999, 65535} {
				for _, c := range []impl.Cmd{f.least(), f.most()} {
					c = withField(c, field, n)
					wantNoCmd(t, c)
					if n <= 255 || field == 1 || field == 2 {
						wantCode(t, bytesOf(c), impl.CdField)
					}
				}
			}
		}
	}
}

func TestReadCmdLengths(t *testing.T) {
	for _, f := range cmdForms() {
		s := impl.ShowCmd(f.most())
		for n := range 8 {
			wantCode(t, s[:n], impl.CdShort)
			wantCode(t, s[8-n:], impl.CdShort)
		}
		for _, more := range []string{"\x00", "x", "\xff", s, strings.Repeat("\x00", 255), strings.Repeat("\x00", 256), strings.Repeat(s, 1000), strings.Repeat("a", 1<<20)} {
			wantCode(t, s+more, impl.CdLong)
			wantCode(t, more+s, impl.CdLong)
		}
	}
	wantCode(t, "", impl.CdShort)
}

func TestReadCmdOfEachFirstByte(t *testing.T) {
	for op := range 256 {
		for _, rest := range []string{"\x00\x00\x00\x00\x00\x00", "\x01\x00\x00\x00\x00\x00", "\x00\x00\x01\x00\x01\x01", "\x00\x00\x00\x00\x00\x01", "\xff\xff\xff\xff\xff\xff"} {
			s := summed(string([]byte{byte(op)}) + rest)
			wantReadCmd(t, s)
			if op == 0 || op > 12 {
				wantCode(t, s, impl.CdOp)
			}
		}
	}
}

// Behind a right last byte each field is past its range by one, or as far as its bytes go.
func TestReadCmdOfWrongFields(t *testing.T) {
	for _, c := range []impl.Cmd{
		{Op: 6, A: 10000}, {Op: 6, A: 65535}, {Op: 7, Kind: 0}, {Op: 7, Kind: 7}, {Op: 7, Kind: 255},
		{Op: 10, A: 10000, B: 1, Kind: 1}, {Op: 10, A: 65535, B: 1, Kind: 1},
		{Op: 10, B: 0, Kind: 1}, {Op: 10, B: 10000, Kind: 1}, {Op: 10, B: 65535, Kind: 1}, {Op: 10, B: 1, Kind: 0}, {Op: 10, B: 1, Kind: 7},
		{Op: 1, At: 1, A: 256}, {Op: 1, At: 1, A: 1}, {Op: 1, At: 1, B: 256}, {Op: 5, At: 1}, {Op: 12, Kind: 1},
	} {
		wantCode(t, bytesOf(c), impl.CdField)
	}
}

// Where several codes apply it is the one named first.
func TestReadCmdSeveralCodes(t *testing.T) {
	for _, op := range []string{"\x00", "\x0d", "\xff", "\x05", "\x07"} {
		for _, rest := range []string{"\x00\x00\x00\x00\x00\x07", "\x01\x02\x03\x04\x05\x06", "\xff\xff\xff\xff\xff\xff"} {
			right := summed(op + rest)
			for n := range 8 {
				wantCode(t, right[:n], impl.CdShort)
			}
			wantCode(t, right+"\x00", impl.CdLong)
			wantCode(t, right[:7]+"\x00\x00"+right[7:], impl.CdLong)
			for turn := byte(1); turn != 0; turn++ {
				wantCode(t, right[:7]+string([]byte{right[7] + turn}), impl.CdSum)
			}
			want := int64(impl.CdField)
			if op[0] == 0 || op[0] > 12 {
				want = impl.CdOp
			}
			wantCode(t, right, want)
		}
	}
}

// Two bytes turned against each other keep the sum: what is read then is what the bytes say.
func TestReadCmdTwoBytesTurned(t *testing.T) {
	for _, f := range cmdForms() {
		for _, c := range []impl.Cmd{f.least(), f.most()} {
			s := impl.ShowCmd(c)
			for i := range len(s) {
				for j := range len(s) {
					for _, turn := range []byte{1, 2, 5, 100, 128, 255} {
						b := []byte(s)
						b[i] += turn
						b[j] -= turn
						wantReadCmd(t, string(b))
					}
				}
			}
		}
	}
}

func TestReadCmdOfAnyBytes(t *testing.T) {
	source := rand.New(rand.NewSource(6))
	for range 200000 {
		b := make([]byte, 7)
		for i := range b {
			if source.Intn(2) == 0 {
				b[i] = byte(source.Intn(256))
			}
		}
		b[0] = byte(source.Intn(16))
		wantReadCmd(t, summed(string(b)))
		wantReadCmd(t, string(b)+string([]byte{byte(source.Intn(256))}))
		wantReadCmd(t, string(b[:source.Intn(8)]))
	}
}

// Promise 21: at any numbers there is an answer, and it is the one by hand.
func TestCmdOfAnyNumbers(t *testing.T) {
	source := rand.New(rand.NewSource(21))
	numbers := []int64{0, 0, 0, 1, 2, 6, 7, 255, 256, 9999, 10000, 65535, 65536, -1, 1 << 32, math.MaxInt64, math.MinInt64}
	any := func() int64 { return numbers[source.Intn(len(numbers))] }
	for range 200000 {
		c := impl.Cmd{Op: int64(source.Intn(15)) - 1, At: any(), A: any(), B: any(), Kind: any()}
		if cmdOkByHand(c) {
			wantCmd(t, c)
		} else {
			wantNoCmd(t, c)
		}
	}
}
