package tests

import (
	"math"
	"math/rand"
	"testing"

	"loop.example/g00354/impl"
)

// A ruleRow is the chapter's table, written out: what those may who do not hold it, by the letters of what they may: r to read, w to write.
type ruleRow struct {
	kind       int64
	stranger   string
	registered string
	forAll     bool
}

var ruleRows = []ruleRow{
	{kind: 1, stranger: "r", registered: "r"},
	{kind: 2, stranger: "", registered: ""},
	{kind: 3, stranger: "r", registered: "rw"},
	{kind: 4, stranger: "", registered: "rw"},
	{kind: 5, stranger: "r", registered: "rw", forAll: true},
	{kind: 6, stranger: "", registered: "rw", forAll: true},
}

// notKinds are neither kinds nor 0: near the edges, far from them, and those that a byte, two or four would cut to a kind.
var notKinds = []int64{
	-1, -2, -3, -4, -5, -6, -7, 7, 8, 9, 10, 11, 12, 13, 63, 64, 65, 127, 128, -128, -127,
	255, 256, 257, 258, 261, 262, -250, -251, -255, -256, 65535, 65536, 65537, 65542,
	1 << 32, 1<<32 + 1, 1<<32 + 2, 1<<32 + 3, 1<<32 + 6, -1 << 32, -1<<32 + 1, -1<<32 + 6,
	1 << 62, 1<<62 + 5, math.MaxInt64, math.MaxInt64 - 1, math.MinInt64, math.MinInt64 + 1, math.MinInt64 + 6,
}

var eachFlag = []bool{false, true}

func mayByHand(letters string, writes bool) bool {
	if writes {
		return letters == "w" || letters == "rw"
	}
	return letters == "r" || letters == "rw"
}

// eachAsker goes through all that can be asked of one kind.
func eachAsker(see func(writes, holds, registered bool)) {
	for _, writes := range eachFlag {
		for _, holds := range eachFlag {
			for _, registered := range eachFlag {
				see(writes, holds, registered)
			}
		}
	}
}

func TestKindNames(t *testing.T) {
	names := []int64{impl.KiWrite, impl.KiAll, impl.KiRegWrite, impl.KiRegAll, impl.KiAllWrite, impl.KiAllBoth}
	for i, name := range names {
		if name != int64(i+1) {
			t.Errorf("kind %d is named %d", i+1, name)
		}
	}
}

func TestKindOk(t *testing.T) {
	for _, row := range ruleRows {
		if !impl.KindOk(row.kind) {
			t.Errorf("KindOk(%d) = false", row.kind)
		}
	}
}

func TestBarsByTheTable(t *testing.T) {
	for _, row := range ruleRows {
		for _, writes := range eachFlag {
			if got := impl.Bars(row.kind, writes); got == mayByHand(row.stranger, writes) {
				t.Errorf("Bars(%d, %v) = %v", row.kind, writes, got)
			}
		}
	}
}

func TestForAllByTheTable(t *testing.T) {
	for _, row := range ruleRows {
		if got := impl.ForAll(row.kind); got != row.forAll {
			t.Errorf("ForAll(%d) = %v", row.kind, got)
		}
	}
}

func TestAllowedByTheTable(t *testing.T) {
	for _, row := range ruleRows {
		eachAsker(func(writes, holds, registered bool) {
			want := mayByHand(row.stranger, writes)
			if registered {
				want = mayByHand(row.registered, writes)
			}
			if holds {
				want = true
			}
			if got := impl.Allowed(row.kind, writes, holds, registered); got != want {
				t.Errorf("Allowed(%d, %v, %v, %v) = %v", row.kind, writes, holds, registered, got)
			}
		})
	}
}

func TestWhoHoldsItMay(t *testing.T) {
	for kind := int64(0); kind <= 6; kind++ {
		for _, writes := range eachFlag {
			for _, registered := range eachFlag {
				if !impl.Allowed(kind, writes, true, registered) {
					t.Errorf("Allowed(%d, %v, true, %v) = false", kind, writes, registered)
				}
			}
		}
	}
}

func TestWhoIsBarredFromReadingIsBarredFromWriting(t *testing.T) {
	for kind := int64(-3); kind <= 12; kind++ {
		if impl.Bars(kind, false) && !impl.Bars(kind, true) {
			t.Errorf("kind %d bars reading and not writing", kind)
		}
		for _, holds := range eachFlag {
			for _, registered := range eachFlag {
				if !impl.Allowed(kind, false, holds, registered) && impl.Allowed(kind, true, holds, registered) {
					t.Errorf("under kind %d one (holds %v, registered %v) may write and not read", kind, holds, registered)
				}
			}
		}
	}
}

func TestOddKindsBarWritingAlone(t *testing.T) {
	for kind := int64(1); kind <= 6; kind++ {
		if !impl.Bars(kind, true) {
			t.Errorf("kind %d does not bar writing", kind)
		}
		if got := impl.Bars(kind, false); got != (kind%2 == 0) {
			t.Errorf("Bars(%d, false) = %v", kind, got)
		}
	}
}

// One who is nothing to it may what it does not bar, and being more to it never bars anything.
func TestStrangersMayWhatIsNotBarred(t *testing.T) {
	for kind := int64(0); kind <= 6; kind++ {
		for _, writes := range eachFlag {
			stranger := impl.Allowed(kind, writes, false, false)
			if stranger == impl.Bars(kind, writes) {
				t.Errorf("Allowed(%d, %v, false, false) = %v, and so is Bars", kind, writes, stranger)
			}
			if stranger && !impl.Allowed(kind, writes, false, true) {
				t.Errorf("kind %d, writes %v: a stranger may, and one that is registered may not", kind, writes)
			}
		}
	}
}

func TestWhereNothingIsHeldAllIsAllowed(t *testing.T) {
	eachAsker(func(writes, holds, registered bool) {
		if !impl.Allowed(0, writes, holds, registered) {
			t.Errorf("Allowed(0, %v, %v, %v) = false", writes, holds, registered)
		}
	})
	if impl.KindOk(0) || impl.ForAll(0) || impl.Bars(0, false) || impl.Bars(0, true) {
		t.Error("0 is told to be a kind")
	}
}

func wantNoKind(t *testing.T, kind int64) {
	t.Helper()
	if impl.KindOk(kind) {
		t.Errorf("KindOk(%d) = true", kind)
	}
	if impl.ForAll(kind) {
		t.Errorf("ForAll(%d) = true", kind)
	}
	if impl.Bars(kind, false) || impl.Bars(kind, true) {
		t.Errorf("Bars(%d, ..) = %v, %v", kind, impl.Bars(kind, false), impl.Bars(kind, true))
	}
	eachAsker(func(writes, holds, registered bool) {
		if impl.Allowed(kind, writes, holds, registered) {
			t.Errorf("Allowed(%d, %v, %v, %v) = true", kind, writes, holds, registered)
		}
	})
}

func TestOfNoKind(t *testing.T) {
	for _, kind := range notKinds {
		wantNoKind(t, kind)
	}
	for kind := int64(7); kind <= 1000; kind++ {
		wantNoKind(t, kind)
		wantNoKind(t, 6-kind)
	}
}

// Each bit above the lowest three, alone and with a kind below it, makes it no kind.
func TestOfKindsWithAHighBit(t *testing.T) {
	for bit := 3; bit < 64; bit++ {
		for low := range int64(8) {
			wantNoKind(t, int64(uint64(1)<<bit)|low)
		}
	}
}

func TestOfKindsThrown(t *testing.T) {
	thrown := rand.New(rand.NewSource(7))
	for range 2000 {
		kind := int64(thrown.Uint64())
		if kind < 0 || kind > 6 {
			wantNoKind(t, kind)
		}
	}
}

// What was asked ahead of it changes no answer: the tables are made anew for each.
func TestRulesAreToldTheSameAgain(t *testing.T) {
	first := map[int64][8]bool{}
	for round := range 3 {
		for kind := int64(-2); kind <= 9; kind++ {
			var told [8]bool
			i := 0
			eachAsker(func(writes, holds, registered bool) {
				told[i] = impl.Allowed(kind, writes, holds, registered)
				i++
			})
			if round == 0 {
				first[kind] = told
			} else if first[kind] != told {
				t.Errorf("kind %d: %v, and ahead of that %v", kind, told, first[kind])
			}
		}
	}
}
