package tests

import (
	"math/big"
	"math/rand"
	"slices"
	"strconv"
	"strings"
	"testing"
	"unsafe"

	"loop.example/g00354/impl"
)

// checkByHand tells Check as one sum of large numbers, apart from the program's way.
func checkByHand(s string) int64 {
	sum := big.NewInt(19)
	for _, b := range []byte(s) {
		sum.Mul(sum, big.NewInt(31))
		sum.Add(sum, big.NewInt(int64(b)+1))
	}
	return sum.Mod(sum, big.NewInt(999983)).Int64()
}

// framedByHand frames each text, also one that Framed refuses.
func framedByHand(s string) string {
	return frameOf(strconv.Itoa(len(s)), strconv.FormatInt(checkByHand(s), 10), s)
}

func frameOf(count string, check string, text string) string {
	return count + " " + check + " " + text + "\n"
}

// numberByHand reads a number and the blank behind it, byte by byte, and tells where it stops.
func numberByHand(s string, at int) (value int, next int, is bool) {
	from := at
	for at < len(s) && at-from < 9 && s[at] >= '0' && s[at] <= '9' {
		value = 10*value + int(s[at]-'0')
		at++
	}
	if at == from || s[from] == '0' && at-from > 1 || at == len(s) || s[at] != ' ' {
		return 0, 0, false
	}
	return value, at + 1, true
}

// framesByHand reads the numbers first and trusts them, where the program goes by the byte 10.
func framesByHand(s string) ([]string, int64) {
	texts, taken := []string{}, 0
	for len(texts) < 2000 {
		count, at, is := numberByHand(s, taken)
		if !is {
			break
		}
		check, at, is := numberByHand(s, at)
		if !is || count > 300 || at+count >= len(s) || s[at+count] != 10 {
			break
		}
		text := s[at : at+count]
		if strings.IndexByte(text, 10) >= 0 || int64(check) != checkByHand(text) {
			break
		}
		texts = append(texts, text)
		taken = at + count + 1
	}
	return texts, int64(taken)
}

// wantFrames holds Frames and Last of s against these texts, framed by hand.
func wantFrames(t *testing.T, s string, texts ...string) {
	t.Helper()
	taken := 0
	for _, text := range texts {
		taken += len(framedByHand(text))
	}
	wantFramesUpTo(t, s, texts, int64(taken))
}

func wantFramesUpTo(t *testing.T, s string, texts []string, taken int64) {
	t.Helper()
	got, n := impl.Frames(s)
	if !slices.Equal(got, texts) || n != taken {
		t.Errorf("Frames(%.80q) = %d texts (%.80q), %d, not %d texts, %d", s, len(got), got, n, len(texts), taken)
	}
	last := ""
	if len(texts) > 0 {
		last = texts[len(texts)-1]
	}
	if got, is := impl.Last(s); got != last || is != (len(texts) > 0) {
		t.Errorf("Last(%.80q) = %.80q, %v, not %.80q", s, got, is, last)
	}
}

// allBytes has each byte but 10.
func allBytes() string {
	list := []byte{}
	for b := range 256 {
		if b != 10 {
			list = append(list, byte(b))
		}
	}
	return string(list)
}

// Texts that can be framed, the edges that the chapter names among them.
func frameTexts() []string {
	return []string{
		"a b", "", "a", " ", "  ", " a", "a ", "0", "-", "+", "-1", "12", "007", "3 661329 a b", "0 19 ", " 0 19 ", "1 2 3",
		"\x00", "\xff", "\x00\xff -0 9-", "\x0b\x09\r", "ä€", "record 1 2 3 4",
		allBytes(), strings.Repeat("x", 9), strings.Repeat("x", 10), strings.Repeat("9", 99), strings.Repeat(" ", 100),
		strings.Repeat("y", 299), strings.Repeat("z", 300), strings.Repeat("\xff", 300), strings.Repeat("\x00", 300), strings.Repeat(" ", 300),
	}
}

// Texts that can not be framed: too long, or with a byte 10 in them.
func notTexts() []string {
	texts := []string{
		"\n", "\n\n", "a\n", "\na", "a\nb", "0 19 \n", "3 661329 a b\n", "a\x00\n",
		strings.Repeat("z", 299) + "\n", "\n" + strings.Repeat("z", 299), strings.Repeat("z", 300) + "\n", "\n" + strings.Repeat("z", 300), strings.Repeat("\n", 301),
	}
	for _, n := range []int{301, 302, 556, 600, 999, 1000, 65536, 65836} {
		texts = append(texts, strings.Repeat("z", n), strings.Repeat(" ", n), strings.Repeat("\x00", n))
	}
	return texts
}

func framesTogether(texts []string) string {
	whole := ""
	for _, text := range texts {
		whole += framedByHand(text)
	}
	return whole
}

// Texts that are nearly a frame of "a b", or of another text that is told beside them.
func notFrames() []string {
	wrong := []string{"", "\n", " ", "  \n", "3", "3 ", "3 661329", "3 661329 ", "3 661329 a b", "a b\n", "661329 a b\n"}
	for _, count := range notNumbersOf("3") {
		wrong = append(wrong, frameOf(count, "661329", "a b"))
	}
	for _, check := range notNumbersOf("661329") {
		wrong = append(wrong, frameOf("3", check, "a b"))
	}
	for _, count := range notNumbersOf("0") {
		wrong = append(wrong, frameOf(count, "19", ""))
	}
	for _, check := range notNumbersOf("19") {
		wrong = append(wrong, frameOf("0", check, ""))
	}
	// Off by one, by the modulo, and by what is lost where numbers wrap round.
	for _, count := range []string{"2", "4", "0", "1", "5", "13", "30", "300", "301", "259", "65539", "999999999", "4294967299", "18446744073709551619"} {
		wrong = append(wrong, frameOf(count, "661329", "a b"))
	}
	for _, check := range []string{"661328", "661330", "0", "19", "1661312", "66132", "6613290", "923473", "4295628625", "18446744073710212945"} {
		wrong = append(wrong, frameOf("3", check, "a b"))
	}
	// The Check of what the count would make of it.
	for _, text := range []string{"a ", "a b\n", "a b\n3", "b", ""} {
		check := strconv.FormatInt(checkByHand(text), 10)
		wrong = append(wrong, frameOf("3", check, "a b"), frameOf(strconv.Itoa(len(text)), check, "a b"))
	}
	wrong = append(wrong,
		" 3 661329 a b\n", "3  661329 a b\n", "3 661329  a b\n", "3 661329 a b \n", "3 661329 a  b\n",
		"3661329 a b\n", "3 661329a b\n", "3 661329 ab\n", "3661329a b\n", "3\t661329\ta b\n", "3\x00661329\x00a b\n", "3\n661329\na b\n", "3\n661329 a b\n", "3 661329\na b\n",
		"661329 3 a b\n", "0 19\n", "019 \n", "0  19 \n", "0 19  \n", " 0 19 \n", "x0 19 \n", "x3 661329 a b\n", "\x003 661329 a b\n", "\n3 661329 a b\n", "\n0 19 \n",
	)
	for _, text := range notTexts() {
		wrong = append(wrong, framedByHand(text))
	}
	for b := range 256 {
		if b != 10 {
			wrong = append(wrong, "3 661329 a b"+string([]byte{byte(b)}), "0 19 "+string([]byte{byte(b)}))
		}
	}
	return wrong
}

// notNumbersOf writes the number as no number is written.
func notNumbersOf(number string) []string {
	return []string{
		"", "-", "+", "0" + number, "00" + number, "000000000" + number, strings.Repeat("0", 400) + number,
		"-" + number, "+" + number, "--" + number, "-0" + number, number + "-", number + ".", number + ".0", number + "e0", "0x" + number, number + "x", number + "\t", "\t" + number, "_" + number,
		number + "000000000", number + "0000000000", number + strings.Repeat("0", 400),
		strings.Repeat("9", 9), strings.Repeat("9", 10), strings.Repeat("9", 19), strings.Repeat("9", 20), strings.Repeat("9", 5000), "9223372036854775807", "-9223372036854775808", "18446744073709551616",
		"\xd9\xa3", "NaN", "x",
	}
}

func TestMaxFrames(t *testing.T) {
	if impl.MaxFrames != 2000 {
		t.Errorf("MaxFrames = %d", impl.MaxFrames)
	}
}

func TestCheckByHand(t *testing.T) {
	for _, c := range []struct {
		text string
		want int64
	}{
		{"", 19},
		{"\x00", 590},
		{"\n", 600},
		{" ", 622},
		{"a", 687},
		{"\xff", 845},
		{"a ", 21330},
		{"a b", 661329},
		{"\x00\x00", 18291},
		{"\x00\x00\x00", 567022},
		{"\x00\x00\x00\x00", 577972},
	} {
		if got := impl.Check(c.text); got != c.want {
			t.Errorf("Check(%q) = %d, not %d", c.text, got, c.want)
		}
	}
}

func TestCheckOfEachText(t *testing.T) {
	texts := append(frameTexts(), notTexts()[:20]...)
	for b := range 256 {
		one := string([]byte{byte(b)})
		texts = append(texts, one, "x"+one, one+"x", strings.Repeat(one, 17))
	}
	for _, text := range texts {
		if got := impl.Check(text); got != checkByHand(text) || got < 0 || got >= 999983 {
			t.Errorf("Check(%.80q) = %d, not %d", text, got, checkByHand(text))
		}
	}
}

func TestFramedByHand(t *testing.T) {
	for _, c := range []struct{ text, want string }{
		{"", "0 19 \n"},
		{"a", "1 687 a\n"},
		{" ", "1 622  \n"},
		{"a b", "3 661329 a b\n"},
		{"\x00", "1 590 \x00\n"},
		{"\xff", "1 845 \xff\n"},
		{"\x00\x00\x00\x00", "4 577972 \x00\x00\x00\x00\n"},
		{"\n", ""},
		{"a\n", ""},
		{"\na", ""},
	} {
		if got := impl.Framed(c.text); got != c.want {
			t.Errorf("Framed(%q) = %q, not %q", c.text, got, c.want)
		}
	}
}

func TestFramedAtTheEdges(t *testing.T) {
	for n := range 310 {
		text := strings.Repeat("q", n)
		want := ""
		if n <= 300 {
			want = framedByHand(text)
		}
		if got := impl.Framed(text); got != want {
			t.Errorf("Framed of %d bytes = %.80q", n, got)
		}
		for _, at := range []int{0, n / 2, n} {
			if got := impl.Framed(text[:at] + "\n" + text[at:]); got != "" {
				t.Errorf("Framed of %d bytes with a byte 10 at %d = %.80q", n+1, at, got)
			}
		}
	}
	for _, text := range notTexts() {
		if got := impl.Framed(text); got != "" {
			t.Errorf("Framed(%.80q) = %.80q", text, got)
		}
	}
}

func TestFramesOfOneFramed(t *testing.T) {
	texts := frameTexts()
	for b := range 256 {
		if b != 10 {
			one := string([]byte{byte(b)})
			texts = append(texts, one, one+one, "1 "+one+" ")
		}
	}
	for n := range 301 {
		texts = append(texts, strings.Repeat("-", n))
	}
	for _, text := range texts {
		if got := impl.Framed(text); got != framedByHand(text) {
			t.Errorf("Framed(%.80q) = %.80q", text, got)
		}
		wantFrames(t, impl.Framed(text), text)
	}
	wantFrames(t, "")
}

// Frames of Frameds are their texts; cut, what was whole ahead of it.
func TestFramesOfFramedsCutAtEachByte(t *testing.T) {
	texts := frameTexts()
	backwards := slices.Clone(texts)
	slices.Reverse(backwards)
	for _, list := range [][]string{texts, backwards, {"", "", ""}, {"a b", "a b"}, {"a", "", "a"}} {
		whole, ends := "", []int{}
		for _, text := range list {
			whole += impl.Framed(text)
			ends = append(ends, len(whole))
		}
		for cut := range len(whole) + 1 {
			count := 0
			for count < len(ends) && ends[count] <= cut {
				count++
			}
			wantFrames(t, whole[:cut], list[:count]...)
		}
	}
}

// Cut at the other end it does not begin with a frame, but where a text itself ends in one.
func TestFramesFromTheMidst(t *testing.T) {
	for _, text := range frameTexts() {
		framed := impl.Framed(text)
		for from := range len(framed) {
			want, taken := framesByHand(framed[from:])
			wantFramesUpTo(t, framed[from:], want, taken)
		}
	}
	whole := framedByHand("a b") + framedByHand("c")
	for from := 1; from < len(framedByHand("a b")); from++ {
		wantFrames(t, whole[from:])
	}
	wantFrames(t, framedByHand("x3 661329 a b")[len("13 123456 x"):], "a b")
}

func TestNothingButFramesIsRead(t *testing.T) {
	good := []string{"a b", "", strings.Repeat("z", 300)}
	ahead, behind := framesTogether(good), framesTogether([]string{"c", ""})
	for _, wrong := range notFrames() {
		if wrong != "" {
			wantFrames(t, wrong+behind)
			wantFrames(t, ahead+wrong+behind, good...)
		}
		wantFrames(t, wrong)
		wantFrames(t, ahead+wrong, good...)
	}
}

func TestFramesWithOneByteTurned(t *testing.T) {
	good := framedByHand("c")
	for _, text := range []string{"a b", "", "0", "-1 2", "3 661329 a b", strings.Repeat("z", 12)} {
		framed := impl.Framed(text)
		for at := range len(framed) {
			for b := range 256 {
				one := string([]byte{byte(b)})
				turned := framed[:at] + one + framed[at+1:]
				if turned != framed {
					wantFrames(t, turned)
					wantFrames(t, good+turned+good, "c")
				}
				// A byte 10 more at the end leaves the frame whole.
				if put := framed[:at] + one + framed[at:]; !strings.HasPrefix(put, framed) {
					wantFrames(t, good+put+good, "c")
				}
			}
			wantFrames(t, good+framed[:at]+framed[at+1:]+good, "c")
		}
	}
}

func TestUpToMaxFrames(t *testing.T) {
	texts := []string{}
	for k := range 2004 {
		texts = append(texts, strconv.Itoa(k))
	}
	for n := 1998; n <= 2004; n++ {
		whole := framesTogether(texts[:n])
		want := texts[:min(n, 2000)]
		for _, behind := range []string{"", "x", "\n", "0 19", framedByHand("a b")[:12]} {
			wantFrames(t, whole+behind, want...)
		}
		wantFrames(t, "x"+whole)
		if n <= 2000 {
			wantFrames(t, whole[:len(whole)-1], texts[:n-1]...)
		}
	}
	wantFrames(t, strings.Repeat(framedByHand(""), 2000), make([]string, 2000)...)
	wantFrames(t, strings.Repeat(framedByHand(""), 2001), make([]string, 2000)...)
	long := strings.Repeat("\xff", 300)
	wantFrames(t, strings.Repeat(framedByHand(long), 2001), slices.Repeat([]string{long}, 2000)...)
}

// All texts of few bytes out of those that a frame is made of.
func TestFramesOfEachShortText(t *testing.T) {
	const bytes = "019 \n-+"
	list := []byte{}
	var from func()
	from = func() {
		s := string(list)
		if strings.HasPrefix(s, "0 19 \n") {
			wantFrames(t, s, "")
		} else {
			wantFrames(t, s)
		}
		if len(list) == 7 {
			return
		}
		for _, b := range []byte(bytes) {
			list = append(list, b)
			from()
			list = list[:len(list)-1]
		}
	}
	from()
}

// Frames and pieces of frames, thrown together and changed here and there.
func TestFramesOfThrownTexts(t *testing.T) {
	source := rand.New(rand.NewSource(4))
	good, wrong := frameTexts(), notFrames()
	for range 20000 {
		s := ""
		for range source.Intn(6) {
			s += framedByHand(good[source.Intn(len(good))])
		}
		if source.Intn(2) == 0 {
			s += wrong[source.Intn(len(wrong))] + framedByHand(good[source.Intn(len(good))])
		}
		for range source.Intn(3) {
			at := source.Intn(len(s) + 1)
			s = s[:at] + string([]byte{"0123456789 -\n"[source.Intn(13)]}) + s[min(at+source.Intn(2), len(s)):]
		}
		want, taken := framesByHand(s)
		wantFramesUpTo(t, s, want, taken)
	}
}

func TestFramesOfLongTexts(t *testing.T) {
	for _, one := range []string{"x", "0", "9", " ", "\n", "-", "\x00", "\xff", "3 ", "0 19 ", "3 661329 a b"} {
		long := strings.Repeat(one, 1<<18)
		wantFrames(t, long)
		wantFrames(t, long+"\n")
		wantFrames(t, framedByHand("a b")+long, "a b")
		impl.Check(long)
		if impl.Framed(long) != "" {
			t.Errorf("Framed of %d bytes", len(long))
		}
	}
}

func TestFramesAreNewMemory(t *testing.T) {
	for _, texts := range [][]string{nil, {""}, {"a b"}, frameTexts()} {
		whole := framesTogether(texts) + "x"
		got, _ := impl.Frames(whole)
		got = got[:cap(got)]
		for k := range got {
			got[k] = "spoilt"
		}
		wantFrames(t, whole, texts...)
	}
}

// sharesMemory is of texts: they can not be written into, but one would keep the other alive.
func sharesMemory(a string, b string) bool {
	if a == "" || b == "" {
		return false
	}
	firstOfA, firstOfB := uintptr(unsafe.Pointer(unsafe.StringData(a))), uintptr(unsafe.Pointer(unsafe.StringData(b)))
	return firstOfA < firstOfB+uintptr(len(b)) && firstOfB < firstOfA+uintptr(len(a))
}

func TestFramesShareNothing(t *testing.T) {
	whole := framesTogether(frameTexts())
	texts, _ := impl.Frames(whole)
	for _, text := range texts {
		if sharesMemory(text, whole) || sharesMemory(impl.Framed(text), text) {
			t.Errorf("the memory of %.80q is not its own", text)
		}
	}
	if last, _ := impl.Last(whole); sharesMemory(last, whole) {
		t.Errorf("the memory of the last one, %.80q, is not its own", last)
	}
}
