package tests

import (
	"fmt"
	"math"
	"math/rand"
	"regexp"
	"slices"
	"strconv"
	"strings"
	"testing"

	"loop.example/g00354/impl"
)

var recordForm = regexp.MustCompile(`\Arecord (0|[1-9][0-9]{0,8}) ([1-3]) (0|[1-9][0-9]{0,8}) (0|[1-9][0-9]{0,8})\z`)

// numbersByForm tells the numbers that the form has in brackets; nothing where the text is not of it.
func numbersByForm(form *regexp.Regexp, s string) []int64 {
	parts := form.FindStringSubmatch(s)
	if parts == nil {
		return nil
	}
	numbers := []int64{}
	for _, part := range parts[1:] {
		n, _ := strconv.ParseInt(part, 10, 64)
		numbers = append(numbers, n)
	}
	return numbers
}

// readRecordByHand reads by a form, where the program reads word by word.
func readRecordByHand(s string) (impl.Record, bool) {
	numbers := numbersByForm(recordForm, s)
	if numbers == nil || slices.Max(numbers) > 100000 {
		return impl.Record{}, false
	}
	return impl.Record{Epoch: numbers[0], State: numbers[1], Tried: numbers[2], Seen: numbers[3]}, true
}

func showRecordByHand(r impl.Record) string {
	return fmt.Sprintf("record %d %d %d %d", r.Epoch, r.State, r.Tried, r.Seen)
}

// recalledByHand looks from the last frame backwards, where the program goes through all.
func recalledByHand(log string) (impl.Record, string, bool) {
	texts, _ := framesByHand(log)
	for k := len(texts) - 1; k >= 0; k-- {
		if r, is := readRecordByHand(texts[k]); is {
			return r, framesTogether(texts[:k+1]), true
		}
	}
	return impl.Record{}, "", false
}

func wantRead(t *testing.T, s string) {
	t.Helper()
	want, wantIs := readRecordByHand(s)
	if got, is := impl.ReadRecord(s); got != want || is != wantIs {
		t.Errorf("ReadRecord(%.80q) = %v, %v, not %v, %v", s, got, is, want, wantIs)
	}
}

func wantNoRecord(t *testing.T, s string) {
	t.Helper()
	if got, is := impl.ReadRecord(s); got != (impl.Record{}) || is {
		t.Errorf("ReadRecord(%.80q) = %v, %v", s, got, is)
	}
}

func wantRecalled(t *testing.T, log string, want impl.Record, upTo string) {
	t.Helper()
	if r, part, is := impl.Recalled(log); r != want || part != upTo || !is {
		t.Errorf("Recalled(%.80q) = %v, %.80q (%d bytes), %v, not %v, %d bytes", log, r, part, len(part), is, want, len(upTo))
	}
}

func wantNothingRecalled(t *testing.T, log string) {
	t.Helper()
	if r, part, is := impl.Recalled(log); r != (impl.Record{}) || part != "" || is {
		t.Errorf("Recalled(%.80q) = %v, %.80q, %v", log, r, part, is)
	}
}

// Right records: each number of some at the edges, and each state.
func records() []impl.Record {
	list := []impl.Record{}
	numbers := []int64{0, 1, 9, 10, 12345, 99999, 100000}
	for _, epoch := range numbers {
		for state := int64(1); state <= 3; state++ {
			for _, tried := range numbers {
				for _, seen := range numbers {
					list = append(list, impl.Record{Epoch: epoch, State: state, Tried: tried, Seen: seen})
				}
			}
		}
	}
	return list
}

// Records that are right but for one number or some.
func notRecords() []impl.Record {
	list := []impl.Record{{}, {Epoch: -1, State: 0, Tried: -1, Seen: -1}, {Epoch: 100001, State: 4, Tried: 100001, Seen: 100001}}
	far := []int64{-1, 100001, -100000, -100001, 1000000, 999999999, math.MinInt32, math.MaxInt32, 1 << 32, 1<<32 + 1, 1 << 48, math.MinInt64, math.MinInt64 + 1, math.MaxInt64}
	for _, good := range []impl.Record{{State: 1}, {Epoch: 1, State: 2, Tried: 2, Seen: 3}, {Epoch: 100000, State: 3, Tried: 100000, Seen: 100000}} {
		for _, n := range far {
			list = append(list,
				impl.Record{Epoch: n, State: good.State, Tried: good.Tried, Seen: good.Seen},
				impl.Record{Epoch: good.Epoch, State: n, Tried: good.Tried, Seen: good.Seen},
				impl.Record{Epoch: good.Epoch, State: good.State, Tried: n, Seen: good.Seen},
				impl.Record{Epoch: good.Epoch, State: good.State, Tried: good.Tried, Seen: n})
		}
		for _, state := range []int64{0, 4, 5, -2, -3, 257, 258, 259, 100000} {
			list = append(list, impl.Record{Epoch: good.Epoch, State: state, Tried: good.Tried, Seen: good.Seen})
		}
	}
	return list
}

// Texts that ShowRecord does not make.
func notRecordTexts() []string {
	wrong := []string{
		"", " ", "record", "record ", "records 1 2 3 4", "record1 2 3 4", "record 1 2 3", "record 1 2 3 ", "record 1 2 3 4 5", "record 1 2 3 4 ", "record 1 2 3 4 x",
		" record 1 2 3 4", "record  1 2 3 4", "record 1  2 3 4", "record 1 2  3 4", "record 1 2 3  4", "record 1 2 3 4  ",
		"record12 3 4 5", "record 12 3 4", "record 1 23 4", "record 1 2 34", "record 1234", "record1234", "1 2 3 4", " 1 2 3 4", "1 2 3 4 record",
		"Record 1 2 3 4", "RECORD 1 2 3 4", "recor 1 2 3 4", "ecord 1 2 3 4", "recorded 1 2 3 4", "cord 1 2 3 4", "\x00record 1 2 3 4", "record\x00 1 2 3 4", "record\t1 2 3 4", "record 1\t2 3 4",
		"record 1 2 3 4\n", "record 1 2 3 4\x00", "record 1 2 3 4\r", "record 1 2 3 4\t", "\nrecord 1 2 3 4", "record\n1 2 3 4", "record 1 2 3\n4", "record 1,2,3,4", "record 1 2 3 4.", "record 1 2 3 4;",
		"record 1 0 3 4", "record 1 4 3 4", "record 100001 2 3 4", "record 1 2 100001 4", "record 1 2 3 100001", "record 0 0 0 0", "record -1 2 3 4", "record 1 -2 3 4", "record 1 2 -3 4", "record 1 2 3 -4",
		"record 1 2 3 4record 1 2 3 4", "record 1 2 3 4 record 1 2 3 4", "record 1 2 3 4\nrecord 1 2 3 4", "record record 1 2 3 4", "record record 2 3 4",
	}
	for k := range 4 {
		words := []string{"record", "7", "1", "8", "0"}
		for _, number := range notNumbersOf(words[k+1]) {
			words[k+1] = number
			wrong = append(wrong, strings.Join(words, " "))
		}
	}
	return wrong
}

// Texts that can be framed and are no records.
func otherTexts() []string {
	texts := frameTexts()
	list := []string{}
	for _, text := range append(texts, notRecordTexts()...) {
		if _, is := readRecordByHand(text); !is && len(text) <= 300 && strings.IndexByte(text, 10) < 0 {
			list = append(list, text)
		}
	}
	return list
}

// logOf has just so many bytes: frames that are no records, and among them a record, whose end it tells.
func logOf(size int, r impl.Record) (log string, upTo string) {
	log = framedByHand("a b") + framedByHand(showRecordByHand(r))
	upTo = log
	for size-len(log) > 400 {
		log += framedByHand(strings.Repeat("z", 200))
	}
	for n := range 301 {
		for m := range 301 {
			more := framedByHand(strings.Repeat("y", n)) + framedByHand(strings.Repeat("x", m))
			if len(log)+len(more) == size {
				return log + more, upTo
			}
		}
	}
	return "", ""
}

func TestRecordConstants(t *testing.T) {
	got := [...]int64{impl.MaxEpoch, impl.StOwner, impl.StHanding, impl.StOther, impl.MaxLog}
	if got != [...]int64{100000, 1, 2, 3, 40000} {
		t.Errorf("constants %v", got)
	}
}

func TestRecordOk(t *testing.T) {
	for _, r := range records() {
		if !impl.RecordOk(r) {
			t.Errorf("RecordOk(%v) is false", r)
		}
	}
	for _, r := range notRecords() {
		if impl.RecordOk(r) {
			t.Errorf("RecordOk(%v) is true", r)
		}
	}
}

func TestShowRecordByHand(t *testing.T) {
	for _, c := range []struct {
		r    impl.Record
		want string
	}{
		{impl.Record{State: impl.StOwner}, "record 0 1 0 0"},
		{impl.Record{Epoch: 1, State: impl.StHanding, Tried: 20, Seen: 300}, "record 1 2 20 300"},
		{impl.Record{Epoch: 100000, State: impl.StOther, Tried: 100000, Seen: 100000}, "record 100000 3 100000 100000"},
		{impl.Record{Epoch: 5, State: 0, Tried: 6, Seen: 7}, ""},
		{impl.Record{Epoch: 5, State: 4, Tried: 6, Seen: 7}, ""},
		{impl.Record{Epoch: -1, State: 1}, ""},
		{impl.Record{State: 1, Tried: 100001}, ""},
		{impl.Record{}, ""},
	} {
		if got := impl.ShowRecord(c.r); got != c.want {
			t.Errorf("ShowRecord(%v) = %q, not %q", c.r, got, c.want)
		}
	}
	for _, r := range notRecords() {
		if got := impl.ShowRecord(r); got != "" {
			t.Errorf("ShowRecord(%v) = %q", r, got)
		}
	}
}

func TestReadRecordOfShowRecord(t *testing.T) {
	for _, r := range records() {
		s := impl.ShowRecord(r)
		if s != showRecordByHand(r) {
			t.Errorf("ShowRecord(%v) = %q", r, s)
		}
		if got, is := impl.ReadRecord(s); got != r || !is {
			t.Errorf("ReadRecord(%q) = %v, %v", s, got, is)
		}
	}
}

func TestReadRecordOfWhatIsNotShown(t *testing.T) {
	for _, s := range notRecordTexts() {
		wantNoRecord(t, s)
	}
	for _, r := range notRecords() {
		wantNoRecord(t, showRecordByHand(r))
	}
	for _, one := range []string{"x", " ", "0", "9", "-", "record ", "1 ", "\x00", "\xff", "\n"} {
		wantNoRecord(t, strings.Repeat(one, 1<<18))
		wantNoRecord(t, "record 1 2 3 "+strings.Repeat(one, 1<<18))
	}
	// Numbers of which only the last digits would fit.
	for _, n := range []string{"1000000000", "1000000001", "4294967296", "4294967297", "18446744073709551616", "18446744073709551617", "18446744073709551619"} {
		wantNoRecord(t, "record "+n+" 1 0 0")
		wantNoRecord(t, "record 0 "+n+" 0 0")
		wantNoRecord(t, "record 0 1 "+n+" 0")
		wantNoRecord(t, "record 0 1 0 "+n)
	}
}

// All texts of few bytes out of those that stand behind the word.
func TestReadRecordOfEachShortText(t *testing.T) {
	list := []byte("record")
	var from func()
	from = func() {
		wantRead(t, string(list))
		if len(list) == len("record")+9 {
			return
		}
		for _, b := range []byte(" 01-") {
			list = append(list, b)
			from()
			list = list[:len(list)-1]
		}
	}
	from()
}

func TestReadRecordWithOneByteTurned(t *testing.T) {
	for _, s := range []string{"record 0 1 0 0", "record 1 2 20 300", "record 100000 3 100000 100000", "record 99999 2 10 9"} {
		for at := range len(s) {
			for b := range 256 {
				one := string([]byte{byte(b)})
				wantRead(t, s[:at]+one+s[at+1:])
				wantRead(t, s[:at]+one+s[at:])
				wantRead(t, s[:at+1]+one+s[at+1:])
			}
			wantRead(t, s[:at]+s[at+1:])
			wantRead(t, s[:at])
			wantRead(t, s[at:])
		}
	}
}

func TestNotedByHand(t *testing.T) {
	owner := impl.Record{Epoch: 1, State: impl.StOwner}
	want := framedByHand("record 1 1 0 0")
	for _, log := range []string{"", "x", "\n", framedByHand("a b"), framedByHand("a b")[:12], want, want + want[:20], "\x00\xff"} {
		if got, is := impl.Noted(log, owner); got != log+want || !is {
			t.Errorf("Noted(%q) = %q, %v", log, got, is)
		}
	}
}

func TestNotedOfNoRecord(t *testing.T) {
	full, _ := logOf(40000, impl.Record{State: 1})
	for _, r := range notRecords() {
		for _, log := range []string{"", "x", framedByHand("record 1 1 0 0"), full, full + full} {
			if got, is := impl.Noted(log, r); got != log || is {
				t.Errorf("Noted(%.80q, %v) = %.80q, %v", log, r, got, is)
			}
		}
	}
}

func TestNotedUpToMaxLog(t *testing.T) {
	old := impl.Record{Epoch: 7, State: impl.StOther, Seen: 3}
	for _, r := range []impl.Record{{State: 1}, {Epoch: 12345, State: 2, Tried: 8, Seen: 9}, {Epoch: 100000, State: 3, Tried: 100000, Seen: 100000}} {
		more := framedByHand(showRecordByHand(r))
		for total := 39990; total <= 40010; total++ {
			log, upTo := logOf(total-len(more), old)
			if len(log)+len(more) != total {
				t.Fatalf("no log of %d bytes", total)
			}
			got, is := impl.Noted(log, r)
			if total <= 40000 {
				if got != log+more || !is {
					t.Errorf("Noted up to %d bytes: %d, %v", total, len(got), is)
				}
				wantRecalled(t, got, r, log+more)
			} else {
				if got != log || is {
					t.Errorf("Noted up to %d bytes: %d, %v", total, len(got), is)
				}
				wantRecalled(t, got, old, upTo)
			}
		}
		for _, size := range []int{39999, 40000, 40001, 40002, 65536, 80000, 1 << 20} {
			log := strings.Repeat("z", size)
			if got, is := impl.Noted(log, r); got != log || is {
				t.Errorf("Noted behind %d bytes: %d, %v", size, len(got), is)
			}
		}
	}
}

// Noted until there is no room: each is recalled, the last one as well.
func TestNotedUntilItIsFull(t *testing.T) {
	list := records()
	log, last := "", impl.Record{}
	for k := 0; ; k++ {
		r := list[k*31%len(list)]
		more, is := impl.Noted(log, r)
		if room := len(log)+len(framedByHand(showRecordByHand(r))) <= 40000; is != room {
			t.Fatalf("Noted behind %d bytes: %v", len(log), is)
		}
		if !is {
			break
		}
		log, last = more, r
		wantRecalled(t, log, r, log)
	}
	wantRecalled(t, log, last, log)
}

// Recalled is what was Noted last, whatever is half noted behind it, and with frames between that are no records.
func TestRecalledIsWhatWasNotedLast(t *testing.T) {
	noted := []impl.Record{
		{Epoch: 0, State: impl.StOther}, {Epoch: 1, State: impl.StOwner}, {Epoch: 1, State: impl.StOwner, Tried: 1}, {Epoch: 1, State: impl.StHanding, Tried: 1},
		{Epoch: 1, State: impl.StHanding, Tried: 1}, {Epoch: 2, State: impl.StOther, Tried: 1, Seen: 100000}, {Epoch: 100000, State: impl.StOther, Tried: 100000, Seen: 100000}, {Epoch: 0, State: impl.StOwner},
	}
	others := otherTexts()
	for step := range 4 {
		log, upTo, ends := "", []string{}, []int{}
		for k, r := range noted {
			for n := range step * (k % 3) {
				log += framedByHand(others[(step*k*7+n*5)%len(others)])
			}
			more, is := impl.Noted(log, r)
			if !is {
				t.Fatalf("not noted behind %d bytes", len(log))
			}
			log = more
			upTo, ends = append(upTo, log), append(ends, len(log))
		}
		log += framedByHand("a b")
		for cut := range len(log) + 1 {
			whole := 0
			for whole < len(ends) && ends[whole] <= cut {
				whole++
			}
			if whole == 0 {
				wantNothingRecalled(t, log[:cut])
			} else {
				wantRecalled(t, log[:cut], noted[whole-1], upTo[whole-1])
			}
		}
	}
}

func TestRecalledWithOtherFrames(t *testing.T) {
	a, b := impl.Record{Epoch: 3, State: 1, Tried: 2}, impl.Record{Epoch: 3, State: 2, Tried: 2}
	first, second := framedByHand(showRecordByHand(a)), framedByHand(showRecordByHand(b))
	wantNothingRecalled(t, "")
	for _, text := range otherTexts() {
		other := framedByHand(text)
		wantNothingRecalled(t, other)
		wantNothingRecalled(t, other+other)
		wantRecalled(t, other+first, a, other+first)
		wantRecalled(t, first+other, a, first)
		wantRecalled(t, first+other+other[:len(other)-1], a, first)
		wantRecalled(t, first+other+second, b, first+other+second)
		wantRecalled(t, first+other+second+other+other, b, first+other+second)
		wantRecalled(t, first+other+second[:len(second)-1], a, first)
	}
}

func TestRecalledBehindWhatIsNoFrame(t *testing.T) {
	a, b := impl.Record{Epoch: 3, State: 1, Tried: 2}, impl.Record{Epoch: 3, State: 2, Tried: 2}
	first, second := framedByHand(showRecordByHand(a)), framedByHand(showRecordByHand(b))
	for _, wrong := range append(notFrames(), showRecordByHand(a), showRecordByHand(a)+"\n", first[1:], "x"+first, "\n"+first, " "+first) {
		wantNothingRecalled(t, wrong)
		wantRecalled(t, first+wrong, a, first)
		if wrong != "" {
			wantNothingRecalled(t, wrong+first)
			wantRecalled(t, first+wrong+second, a, first)
		}
		// What is noted behind bytes that are no frame is noted, and not recalled.
		if wrong != "" && len(wrong) < 30000 {
			log, is := impl.Noted(wrong, a)
			if !is || log != wrong+first {
				t.Errorf("Noted(%.80q) = %.80q, %v", wrong, log, is)
			}
			wantNothingRecalled(t, log)
		}
	}
}

// Recalled goes by Frames, which are at most 2000.
func TestRecalledUpToMaxFrames(t *testing.T) {
	a, b := impl.Record{Epoch: 3, State: 1}, impl.Record{Epoch: 4, State: 2}
	first, second := framedByHand(showRecordByHand(a)), framedByHand(showRecordByHand(b))
	for n := 1996; n <= 2002; n++ {
		log := first + strings.Repeat(framedByHand(""), n)
		more, is := impl.Noted(log, b)
		if !is || more != log+second {
			t.Fatalf("Noted behind %d frames: %v", n+1, is)
		}
		if n+2 <= 2000 {
			wantRecalled(t, more, b, more)
		} else {
			wantRecalled(t, more, a, first)
		}
	}
	wantNothingRecalled(t, strings.Repeat(framedByHand("x"), 2000)+first)
	wantRecalled(t, strings.Repeat(first, 3000), a, strings.Repeat(first, 2000))
}

// Logs thrown together and changed here and there.
func TestRecalledOfThrownLogs(t *testing.T) {
	source := rand.New(rand.NewSource(5))
	right, others, wrong := records(), otherTexts(), notFrames()
	for range 20000 {
		log := ""
		for range source.Intn(6) {
			if source.Intn(2) == 0 {
				log += framedByHand(showRecordByHand(right[source.Intn(len(right))]))
			} else {
				log += framedByHand(others[source.Intn(len(others))])
			}
		}
		if source.Intn(4) == 0 {
			log += wrong[source.Intn(len(wrong))] + framedByHand("record 1 2 3 4")
		}
		for range source.Intn(2) {
			at := source.Intn(len(log) + 1)
			log = log[:at] + string([]byte{"0123456789 -\n"[source.Intn(13)]}) + log[min(at+source.Intn(2), len(log)):]
		}
		want, upTo, wantIs := recalledByHand(log)
		if r, part, is := impl.Recalled(log); r != want || part != upTo || is != wantIs {
			t.Errorf("Recalled(%.200q) = %v, %.80q, %v, not %v, %.80q, %v", log, r, part, is, want, upTo, wantIs)
		}
	}
}

func TestRecallingLongLogs(t *testing.T) {
	for _, one := range []string{"x", "0", " ", "\n", "record 1 2 3 4", "record 1 2 3 4\n", "\x00", "\xff"} {
		long := strings.Repeat(one, 1<<16)
		wantNothingRecalled(t, long)
		wantRecalled(t, framedByHand("record 1 2 3 4")+long, impl.Record{Epoch: 1, State: 2, Tried: 3, Seen: 4}, framedByHand("record 1 2 3 4"))
	}
}

func TestLogsShareNothing(t *testing.T) {
	r := impl.Record{Epoch: 1, State: 1}
	log := framedByHand("a b") + framedByHand("record 1 2 3 4")
	if more, _ := impl.Noted(log, r); sharesMemory(more, log) {
		t.Error("what is noted shares the memory of the log")
	}
	if same, _ := impl.Noted(log, impl.Record{}); sharesMemory(same, log) {
		t.Error("a log that is left as it is shares the memory of the log")
	}
	long := strings.Repeat("x", 40000)
	if same, _ := impl.Noted(long, r); sharesMemory(same, long) {
		t.Error("a log that is full shares the memory of the log")
	}
	for _, whole := range []string{log, log + "x", log + framedByHand("c")} {
		if _, part, _ := impl.Recalled(whole); part != log || sharesMemory(part, whole) {
			t.Error("what is recalled shares the memory of the log")
		}
	}
}
