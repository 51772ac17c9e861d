package tests

import (
	"fmt"
	"math/rand"
	"regexp"
	"strconv"
	"strings"
	"testing"

	"loop.example/g00354/impl"
)

const keyForm = `(0|[1-9][0-9]{0,3})`

var holdingForm = regexp.MustCompile(`\A` + strings.Repeat(keyForm+" ", 4) + `([0-6]) (-1|[0-3]) (0|[1-9][0-9]{0,8}|1000000000)\z`)

// readHoldingByHand reads by a form, where the program shows what it read once more.
func readHoldingByHand(s string) (impl.Holding, bool) {
	numbers := numbersByForm(holdingForm, s)
	if numbers == nil {
		return impl.Holding{}, false
	}
	h := held(numbers[4], numbers[5], numbers[6], numbers[:4]...)
	if !holdingOkByHand(h) {
		return impl.Holding{}, false
	}
	return h, true
}

func keysOfByHand(h impl.Holding) string {
	text := fmt.Sprint(h.Turn)
	for _, key := range h.Keys {
		if key > 0 {
			text += fmt.Sprintf(" %d", key)
		}
	}
	return text
}

func holderOfByHand(h impl.Holding) string {
	if h.Kind >= 1 && h.Kind <= 4 {
		return fmt.Sprintf("%d %d %d", h.Turn, h.Kind, h.Keys[h.Holder])
	}
	return fmt.Sprintf("%d %d 0", h.Turn, h.Kind)
}

func showHoldingByHand(h impl.Holding) string {
	return fmt.Sprintf("%d %d %d %d %d %d %d", h.Keys[0], h.Keys[1], h.Keys[2], h.Keys[3], h.Kind, h.Holder, h.Turn)
}

// wantTold wants these three texts of it, and it back from the last one.
func wantTold(t *testing.T, h impl.Holding, keys, holder, shown string) {
	t.Helper()
	if got := impl.KeysOf(h); got != keys {
		t.Errorf("KeysOf(%v) = %q, not %q", h, got, keys)
	}
	if got := impl.HolderOf(h); got != holder {
		t.Errorf("HolderOf(%v) = %q, not %q", h, got, holder)
	}
	if got := impl.ShowHolding(h); got != shown {
		t.Errorf("ShowHolding(%v) = %q, not %q", h, got, shown)
	}
	if got, is := impl.ReadHolding(shown); !sameHolding(got, h) || !is {
		t.Errorf("ReadHolding(%q) = %v, %v, not %v", shown, got, is, h)
	}
}

// wantNothingTold wants three empty texts.
func wantNothingTold(t *testing.T, h impl.Holding) {
	t.Helper()
	for name, tell := range map[string]func(impl.Holding) string{"KeysOf": impl.KeysOf, "HolderOf": impl.HolderOf, "ShowHolding": impl.ShowHolding} {
		if got := tell(h); got != "" {
			t.Errorf("%s(%v) = %q", name, h, got)
		}
	}
}

// wantToldByHand holds a holding, right or not, against the chapter told once more.
func wantToldByHand(t *testing.T, h impl.Holding) {
	t.Helper()
	if !holdingOkByHand(h) {
		wantNothingTold(t, h)
		return
	}
	wantTold(t, h, keysOfByHand(h), holderOfByHand(h), showHoldingByHand(h))
}

func wantNoHoldingRead(t *testing.T, s string) {
	t.Helper()
	if got, is := impl.ReadHolding(s); !sameHolding(got, impl.Holding{}) || is {
		t.Errorf("ReadHolding(%.80q) = %v, %v", s, got, is)
	}
}

// wantReadByHand holds a text, right or not, against the form; and what is read with true is, shown, the text.
func wantReadByHand(t *testing.T, s string) {
	t.Helper()
	want, wantIs := readHoldingByHand(s)
	got, is := impl.ReadHolding(s)
	if !sameHolding(got, want) || is != wantIs {
		t.Errorf("ReadHolding(%.80q) = %v, %v, not %v, %v", s, got, is, want, wantIs)
	}
	if shown := impl.ShowHolding(got); is && shown != s {
		t.Errorf("ReadHolding(%.80q) = %v, which is shown as %q", s, got, shown)
	}
}

// eachHoldingOf goes through the right holdings of every kind with Keys and Turns out of these.
func eachHoldingOf(keys []int64, turns []int64, see func(h impl.Holding)) {
	eachAlikeHolding(keys, func(h impl.Holding) {
		for _, turn := range turns {
			h.Turn = turn
			see(h)
		}
	})
}

func TestToldWrittenOut(t *testing.T) {
	tests := []struct {
		what                string
		h                   impl.Holding
		keys, holder, shown string
	}{
		{"nobody is registered", held(0, -1, 0, 0, 0, 0, 0), "0", "0 0 0", "0 0 0 0 0 -1 0"},
		{"nobody is registered any more", held(0, -1, 17, 0, 0, 0, 0), "17", "17 0 0", "0 0 0 0 0 -1 17"},
		{"the first one is registered", held(0, -1, 3, 5, 0, 0, 0), "3 5", "3 0 0", "5 0 0 0 0 -1 3"},
		{"the last one is registered", held(0, -1, 3, 0, 0, 0, 5), "3 5", "3 0 0", "0 0 0 5 0 -1 3"},
		{"two with one between", held(0, -1, 3, 5, 0, 7, 0), "3 5 7", "3 0 0", "5 0 7 0 0 -1 3"},
		{"two, the greater Key first", held(0, -1, 3, 0, 9, 0, 2), "3 9 2", "3 0 0", "0 9 0 2 0 -1 3"},
		{"three", held(0, -1, 3, 8, 7, 0, 6), "3 8 7 6", "3 0 0", "8 7 0 6 0 -1 3"},
		{"all", held(0, -1, 3, 4, 3, 2, 1), "3 4 3 2 1", "3 0 0", "4 3 2 1 0 -1 3"},
		{"all with one Key", held(0, -1, 3, 5, 5, 5, 5), "3 5 5 5 5", "3 0 0", "5 5 5 5 0 -1 3"},
		{"Keys of one digit and of four", held(0, -1, 10, 1, 9999, 10, 1000), "10 1 9999 10 1000", "10 0 0", "1 9999 10 1000 0 -1 10"},
		{"Keys of one digit to four", held(0, -1, 9, 9, 99, 999, 9999), "9 9 99 999 9999", "9 0 0", "9 99 999 9999 0 -1 9"},
		{"KiWrite by the first", held(1, 0, 3, 5, 0, 7, 0), "3 5 7", "3 1 5", "5 0 7 0 1 0 3"},
		{"KiAll by the third", held(2, 2, 3, 5, 0, 7, 0), "3 5 7", "3 2 7", "5 0 7 0 2 2 3"},
		{"KiRegWrite by the second", held(3, 1, 3, 5, 6, 7, 8), "3 5 6 7 8", "3 3 6", "5 6 7 8 3 1 3"},
		{"KiRegAll by the last", held(4, 3, 3, 5, 6, 7, 8), "3 5 6 7 8", "3 4 8", "5 6 7 8 4 3 3"},
		{"KiRegAll by one alone with MaxKey", held(4, 3, 1000000000, 0, 0, 0, 9999), "1000000000 9999", "1000000000 4 9999", "0 0 0 9999 4 3 1000000000"},
		{"KiAllWrite", held(5, -1, 3, 5, 0, 7, 0), "3 5 7", "3 5 0", "5 0 7 0 5 -1 3"},
		{"KiAllBoth", held(6, -1, 3, 5, 6, 7, 8), "3 5 6 7 8", "3 6 0", "5 6 7 8 6 -1 3"},
		{"KiAllBoth of one", held(6, -1, 1000000000, 0, 1, 0, 0), "1000000000 1", "1000000000 6 0", "0 1 0 0 6 -1 1000000000"},
		{"a Turn of nine digits", held(0, -1, 999999999, 0, 0, 0, 0), "999999999", "999999999 0 0", "0 0 0 0 0 -1 999999999"},
		{"MaxTurn", held(0, -1, 1000000000, 0, 0, 0, 0), "1000000000", "1000000000 0 0", "0 0 0 0 0 -1 1000000000"},
	}
	for _, test := range tests {
		t.Run(test.what, func(t *testing.T) { wantTold(t, test.h, test.keys, test.holder, test.shown) })
	}
}

func TestNewHoldingIsTold(t *testing.T) {
	wantTold(t, impl.NewHolding(), "0", "0 0 0", "0 0 0 0 0 -1 0")
}

// Promise 10: ReadHolding of ShowHolding is the holding.
func TestReadHoldingOfShowHolding(t *testing.T) {
	seen := map[int64]int{}
	eachHoldingOf([]int64{0, 1, impl.MaxKey}, []int64{0, 1, impl.MaxTurn}, func(h impl.Holding) {
		seen[h.Kind]++
		if got, is := impl.ReadHolding(impl.ShowHolding(h)); !sameHolding(got, h) || !is {
			t.Errorf("ReadHolding(ShowHolding(%v)) = %v, %v", h, got, is)
		}
		wantToldByHand(t, h)
	})
	for kind := range int64(7) {
		// Nothing held: each of the Keys; held alone: by one of four with one of two Keys; by all: but where nobody is registered.
		want := 3 * [7]int{81, 216, 216, 216, 216, 80, 80}[kind]
		if seen[kind] != want {
			t.Errorf("%d holdings of kind %d, not %d", seen[kind], kind, want)
		}
	}
}

func TestEachHoldingIsTold(t *testing.T) {
	eachHolding(func(h impl.Holding, _ [4]bool, _ [4]bool) {
		for _, turn := range []int64{0, 1, 9, 10, 99, 100, 99999, 999999999, 1000000000} {
			h.Turn = turn
			wantToldByHand(t, h)
		}
	})
	for _, key := range []int64{1, 9, 10, 11, 99, 100, 101, 999, 1000, 1001, 9998, 9999} {
		eachHoldingOf([]int64{0, key}, []int64{0, 7, 1000000000}, func(h impl.Holding) { wantToldByHand(t, h) })
	}
}

// No two holdings are shown alike.
func TestShownHoldingsDiffer(t *testing.T) {
	texts, seen := map[string]int{}, 0
	eachHoldingOf([]int64{0, 1, 10, 101}, []int64{0, 1, 10, 101}, func(h impl.Holding) {
		texts[impl.ShowHolding(h)]++
		seen++
	})
	if len(texts) != seen {
		t.Errorf("%d holdings are shown by %d texts", seen, len(texts))
	}
}

func TestNothingIsToldOfNoHolding(t *testing.T) {
	four := []int64{5, 0, 7, 0}
	tests := map[string]impl.Holding{
		"the zero Holding":                    {},
		"no Keys":                             held(0, -1, 3),
		"too few Keys":                        held(0, -1, 3, 5, 0, 7),
		"too many Keys":                       held(0, -1, 3, 5, 0, 7, 0, 0),
		"a Key below 0":                       held(0, -1, 3, 5, 0, 7, -1),
		"a Key above MaxKey":                  held(0, -1, 3, 10000, 0, 7, 0),
		"a Holder that is not registered":     held(1, 1, 3, four...),
		"a Holder that is none":               held(1, 4, 3, four...),
		"nobody holds what is held alone":     held(1, -1, 3, four...),
		"one holds what is held by all":       held(5, 0, 3, four...),
		"one holds and nothing is held":       held(0, 0, 3, four...),
		"nobody is registered, held by all":   held(6, -1, 3, 0, 0, 0, 0),
		"a kind that is none":                 held(7, 0, 3, four...),
		"a kind below 0":                      held(-1, -1, 3, four...),
		"a Turn below 0":                      held(0, -1, -1, four...),
		"a Turn above MaxTurn":                held(0, -1, 1000000001, four...),
		"a Turn above MaxTurn, held":          held(1, 0, 1000000001, four...),
		"nobody is registered, Turn too high": held(0, -1, 1000000001, 0, 0, 0, 0),
	}
	for what, h := range tests {
		t.Run(what, func(t *testing.T) { wantNothingTold(t, h) })
	}
	for _, b := range breaches() {
		wantNothingTold(t, b.broken)
	}
}

// What would be shown of a holding that is not right is not read either.
func TestNoHoldingIsReadOfOneThatIsNotRight(t *testing.T) {
	for _, b := range breaches() {
		numbers := append([]int64{}, b.broken.Keys...)
		numbers = append(numbers, b.broken.Kind, b.broken.Holder, b.broken.Turn)
		wantNoHoldingRead(t, strings.Trim(fmt.Sprint(numbers), "[]"))
	}
	for _, s := range []string{
		"0 0 0 0 2 2 3", "5 0 7 0 2 1 3", "5 0 7 0 2 -1 3", "5 0 7 0 0 0 3", "5 0 7 0 5 0 3", "0 0 0 0 5 -1 3", "5 0 7 0 7 0 3", "5 0 7 0 -1 -1 3", "5 0 7 0 2 4 3", "5 0 7 0 0 -2 3",
		"10000 0 7 0 0 -1 3", "-1 0 7 0 0 -1 3", "5 0 7 0 0 -1 -1", "5 0 7 0 0 -1 1000000001", "5 0 7 0 0 -1 9999999999", "5 0 7 0 2 2 10000000000", "0 0 0 0 0 0 0",
	} {
		wantNoHoldingRead(t, s)
	}
}

// Texts that ShowHolding does not make, whatever the numbers in them.
func notHoldingTexts() []string {
	wrong := []string{
		"", " ", "  ", "      ", "       ", "-", "0", "x", "3 5 7", "3 2 7",
		"5 0 7 0 2 2", "5 0 7 0 2 2 ", " 5 0 7 0 2 2", "5 0 7 0 2 2 3 4", "5 0 7 0 2 2 3 0", "0 5 0 7 0 2 2 3", "5 0 7 0 2 2 3 ", " 5 0 7 0 2 2 3", "5 0 7 0 2 2 3  ", "  5 0 7 0 2 2 3", " 5 0 7 0 2 2 3 ",
		"5  0 7 0 2 2 3", "5 0  7 0 2 2 3", "5 0 7  0 2 2 3", "5 0 7 0  2 2 3", "5 0 7 0 2  2 3", "5 0 7 0 2 2  3", "5  7 0 2 2 3", "5 0 7 0 2  3",
		"50 7 0 2 2 3", "5 07 0 2 2 3", "5 0 70 2 2 3", "5 0 7 02 2 3", "5 0 7 0 22 3", "5 0 7 0 2 23", "5070223", "5 0 7 0 2 2 3 5 0 7 0 2 2 3", "5 0 7 0 2 2 35 0 7 0 2 2 3",
		"5\t0 7 0 2 2 3", "5 0 7 0 2 2\t3", "5,0,7,0,2,2,3", "5, 0, 7, 0, 2, 2, 3", "[5 0 7 0] 2 2 3", "5 0 7 0 2 2 3\n", "\n5 0 7 0 2 2 3", "5 0 7 0 2 2 3\x00", "\x005 0 7 0 2 2 3", "5\n0\n7\n0\n2\n2\n3", "5\x000 7 0 2 2 3",
		"5 0 7 0 2 2 3.", "5 0 7 0 2 2 3x", "x 0 7 0 2 2 3", "5 0 7 0 2 2 x", "5 0 7 0 x 2 3", "holding 5 0 7 0 2 2 3", "5 0 7 0 2 2 holding", "5\u00a00 7 0 2 2 3", "5 0 7 0 2 2 \u0663",
		"05 0 7 0 2 2 3", "5 00 7 0 2 2 3", "5 0 07 0 2 2 3", "5 0 7 00 2 2 3", "5 0 7 0 02 2 3", "5 0 7 0 2 02 3", "5 0 7 0 2 2 03", "5 0 7 0 0 -01 3", "5 0 7 0 0 -1 01000000000",
		"+5 0 7 0 2 2 3", "5 +0 7 0 2 2 3", "5 0 +7 0 2 2 3", "5 0 7 +0 2 2 3", "5 0 7 0 +2 2 3", "5 0 7 0 2 +2 3", "5 0 7 0 2 2 +3", "5 0 7 0 0 +1 3", "5 0 7 0 0 --1 3", "5 0 7 0 0 - 3", "5 0 7 0 0 - 1 3", "5 0 7 0 0 1- 3",
		"5 -0 7 0 2 2 3", "5 0 7 -0 2 2 3", "5 0 7 0 -0 -1 3", "5 0 7 0 2 -0 3", "5 0 7 0 2 2 -0", "-0 0 0 0 0 -1 0", "0 0 0 0 0 -1 -0",
		"1_0 0 7 0 2 2 3", "5 0 7 0 2 2 1_0", "0x5 0 7 0 2 2 3", "5 0 7 0 2 2 0x3", "5 0 7 0 2 2 1e3", "5 0 7 0 2 2 3.0", "5 0 7 0 2 2 0b1", "5 0 7 0 2 2 0o7",
	}
	for k := range 7 {
		for _, number := range notNumbersOf(strings.Split("5 0 7 0 2 2 3", " ")[k]) {
			words := strings.Split("5 0 7 0 2 2 3", " ")
			words[k] = number
			wrong = append(wrong, strings.Join(words, " "))
		}
	}
	return wrong
}

func TestNoHoldingIsRead(t *testing.T) {
	none := 0
	for _, s := range notHoldingTexts() {
		// Among what is no number of one field is a Turn of another, such as 999999999.
		if _, is := readHoldingByHand(s); is {
			wantReadByHand(t, s)
			continue
		}
		none++
		wantNoHoldingRead(t, s)
	}
	if none < 300 {
		t.Errorf("%d texts of no holding", none)
	}
}

// Numbers that an int64, 32 bits, 16 or 8 would wrap round to the right ones.
func TestNoHoldingIsReadOfNumbersTooGreat(t *testing.T) {
	words := strings.Split("5 0 7 0 2 2 3", " ")
	for k, word := range words {
		for _, great := range []string{"9223372036854775807", "9223372036854775808", "-9223372036854775808", "-9223372036854775809", "99999999999999999999", "1" + strings.Repeat("0", 5000)} {
			words[k] = great
			wantNoHoldingRead(t, strings.Join(words, " "))
		}
		low, _ := strconv.ParseUint(word, 10, 64)
		for _, round := range []string{
			fmt.Sprint(low + 1<<8), fmt.Sprint(low + 1<<16), fmt.Sprint(low + 1<<32), fmt.Sprint(low + 1<<63), fmt.Sprintf("1844674407370955%d", 1616+low), fmt.Sprintf("-1844674407370955%d", 1616-low),
		} {
			words[k] = round
			wantReadByHand(t, strings.Join(words, " "))
		}
		words[k] = word
	}
	wantNoHoldingRead(t, "18446744073709551621 0 7 0 2 2 3")
	wantNoHoldingRead(t, "5 0 7 0 0 18446744073709551615 3")
	wantNoHoldingRead(t, "5 0 7 0 2 2 18446744073709551619")
}

// Each byte of a right text taken out, put in twice, or made another one.
func TestReadHoldingWithOneByteChanged(t *testing.T) {
	for _, s := range []string{"5 0 7 0 2 2 3", "0 0 0 0 0 -1 0", "9999 10 1 1000 6 -1 1000000000", "1 1 1 1 1 1 11", "10 0 0 9 4 3 999999999"} {
		wantReadByHand(t, s)
		if _, is := impl.ReadHolding(s); !is {
			t.Errorf("ReadHolding(%q) is none", s)
		}
		for at := range len(s) {
			wantReadByHand(t, s[:at])
			wantReadByHand(t, s[at:])
			wantReadByHand(t, s[:at]+s[at+1:])
			for b := range 256 {
				one := string([]byte{byte(b)})
				wantReadByHand(t, s[:at]+one+s[at+1:])
				wantReadByHand(t, s[:at]+one+s[at:])
				wantReadByHand(t, s+one)
			}
		}
	}
}

// Seven words out of these, some of which are shown and some not.
func TestReadHoldingOfWords(t *testing.T) {
	keys := []string{"0", "1", "9999", "10000", "-1", "-0", "01"}
	for _, first := range keys {
		for _, last := range keys {
			for _, kind := range []string{"0", "1", "2", "3", "4", "5", "6", "7", "-1", "00", ""} {
				for _, holder := range []string{"-1", "0", "1", "2", "3", "4", "-2", "-01", "+0"} {
					for _, turn := range []string{"0", "1", "999999999", "1000000000", "1000000001", "-1", "00", "9999999999", ""} {
						wantReadByHand(t, strings.Join([]string{first, "0", "3", last, kind, holder, turn}, " "))
					}
				}
			}
		}
	}
}

func TestToldThrown(t *testing.T) {
	thrown := rand.New(rand.NewSource(10))
	right := 0
	for range 50000 {
		h := thrownHolding(thrown)
		for who := range h.Keys {
			if thrown.Intn(4) > 0 {
				h.Keys[who] = thrownNear(thrown, 1, 10, 100, 1000, 9998)
			}
		}
		if holdingOkByHand(h) {
			right++
		}
		wantToldByHand(t, h)
	}
	if right < 2000 {
		t.Errorf("%d are right of what was thrown", right)
	}
}

func TestReadHoldingThrown(t *testing.T) {
	thrown := rand.New(rand.NewSource(1010))
	right := []string{}
	eachHoldingOf([]int64{0, 1, 77, 9999}, []int64{0, 5, 1000000000}, func(h impl.Holding) { right = append(right, showHoldingByHand(h)) })
	read := 0
	for range 100000 {
		s := right[thrown.Intn(len(right))]
		for range thrown.Intn(4) {
			at := thrown.Intn(len(s) + 1)
			s = s[:at] + string([]byte{"0123456789 -+x"[thrown.Intn(14)]}) + s[min(at+thrown.Intn(3), len(s)):]
		}
		if _, is := readHoldingByHand(s); is {
			read++
		}
		wantReadByHand(t, s)
	}
	if read < 20000 || read > 80000 {
		t.Errorf("%d are right of what was thrown", read)
	}
}

func TestReadHoldingOfLongTexts(t *testing.T) {
	for _, one := range []string{"x", "0", " ", "\n", "-", "9", "0 ", "5 0 7 0 2 2 3", "5 0 7 0 2 2 3 ", "\x00", "\xff"} {
		long := strings.Repeat(one, 1<<16)
		wantNoHoldingRead(t, long)
		wantNoHoldingRead(t, "5 0 7 0 2 2 3"+long)
		wantNoHoldingRead(t, long+"5 0 7 0 2 2 3")
		wantNoHoldingRead(t, "5 0 7 0 2 2 "+long)
	}
	wantNoHoldingRead(t, allBytes())
}

func TestTellingLeavesItsArgument(t *testing.T) {
	leavesHoldings(t, func(h impl.Holding) {
		impl.KeysOf(h)
		impl.HolderOf(h)
		impl.ShowHolding(h)
	})
}

// What lies behind the Keys tells nothing: three with a fourth behind them are three.
func TestToldOfKeysWithRoomBehindThem(t *testing.T) {
	whole := []int64{5, 6, 5, 8, 9, 9}
	for n := range 6 {
		for kind := int64(0); kind <= 6; kind++ {
			for holder := int64(-1); holder <= 5; holder++ {
				wantToldByHand(t, impl.Holding{Keys: whole[:n], Kind: kind, Holder: holder})
			}
		}
	}
}

func TestReadHoldingIsNewMemory(t *testing.T) {
	eachHoldingOf([]int64{0, 7}, []int64{3}, func(h impl.Holding) {
		text := showHoldingByHand(h)
		first, _ := impl.ReadHolding(text)
		second, _ := impl.ReadHolding(text)
		spoil(first.Keys)
		if again, _ := impl.ReadHolding(text); !sameHolding(second, h) || !sameHolding(again, h) {
			t.Errorf("ReadHolding(%q) = %v, then %v", text, second, again)
		}
	})
	eachAlikeHolding([]int64{0, 7}, func(h impl.Holding) {
		before := cloneHolding(h)
		read, _ := impl.ReadHolding(impl.ShowHolding(h))
		spoil(read.Keys)
		if !sameHolding(h, before) {
			t.Errorf("the Keys of %v are those that were read", before)
		}
	})
}
