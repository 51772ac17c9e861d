package tests

import (
	"fmt"
	"math/rand"
	"slices"
	"strings"
	"testing"

	"loop.example/g00354/impl"
)

// handedLines end with a letter that hands over.
var handedLines = strings.Split("told 0 1,hear 0,hear 0,told 0 3,told 0 3,told 0 3,told 0 3,hear 0,hear 0,hear 0,hear 0,hear 0,hear 0,hear 0,hear 0,told 0 4", ",")

// benchLooks show what a bench has, and what it has still on the way.
var benchLooks = []string{
	"state 0", "state 1", "now 0", "now 1", "post", "agreed", "ask 0 0 11 0 0 0 0", "ask 0 0 12 0 0 0 0", "hear 0", "hear 0", "told 0 3", "post", "rise 0", "rise 1",
	"calm", "now 0", "moved", "now 1", "state 0", "state 1", "ask 1 0 11 0 0 0 0", "ask 1 0 12 0 0 0 0", "ask 0 0 1 1 0 0 0", "agreed",
}

// A benchBase is a line of the table that comes to something, behind those that lead to it.
type benchBase struct {
	before []string
	line   string
}

func benchBases() []benchBase {
	return []benchBase{
		{nil, "ask 0 1 3 1 0 5 0"}, {[]string{"ask 0 1 6 0 1 0 0"}, "ask 0 1 10 0 1 1 1"}, {handedLines, "ask 1 0 1 0 0 0 0"},
		{nil, "told 0 1"}, {handedLines, "told 0 6"}, {[]string{"told 0 1"}, "hear 0"}, {handedLines, "hear 0"}, {[]string{"told 0 1", "told 0 2"}, "hear 1"},
		{[]string{"told 0 1"}, "lose 0"}, {[]string{"told 0 1", "told 0 2"}, "lose 1"}, {[]string{"told 0 1"}, "twice 0"}, {[]string{"told 0 1", "hear 0", "told 0 2"}, "twice 1"},
		{[]string{"ask 0 1 2 1 9 0 0"}, "fall 0 1"}, {nil, "fall 1 0"}, {[]string{"fall 0 0"}, "rise 0"}, {[]string{"fall 1 0"}, "rise 1"},
		{[]string{"told 0 1"}, "calm"}, {handedLines, "calm"}, {nil, "moved"}, {handedLines, "moved"},
		{nil, "state 0"}, {nil, "state 1"}, {nil, "now 0"}, {nil, "now 1"}, {nil, "agreed"}, {[]string{"told 0 1"}, "post"},
	}
}

// wantErrors wants each of these lines, between those that lead to the base and the base itself, to be answered by error, and all that is behind them to be answered as if they were not there.
func wantErrors(t *testing.T, base benchBase, wrong []string) {
	t.Helper()
	right := slices.Concat(base.before, []string{base.line}, benchLooks)
	answers := strings.SplitAfter(benchByHand(strings.Join(right, "\n")), "\n")
	if answers[len(base.before)] == "error\n" {
		t.Fatalf("%q behind %q is an error", base.line, base.before)
	}
	room := 20000 - len(strings.Join(right, "\n")) - 1
	for len(wrong) > 0 {
		n, bytes := 0, 0
		for n < len(wrong) && n < 200-len(right) && bytes+len(wrong[n])+1 <= room {
			bytes += len(wrong[n]) + 1
			n++
		}
		text := strings.Join(slices.Concat(base.before, wrong[:n], right[len(base.before):]), "\n")
		want := strings.Join(slices.Concat(answers[:len(base.before)], slices.Repeat([]string{"error\n"}, n), answers[len(base.before):]), "")
		wantBench(t, fmt.Sprintf("behind %q", base.before), text, want)
		wrong = wrong[n:]
	}
}

// A word that the table does not have, or a line that has none.
func TestBenchOfNoWord(t *testing.T) {
	wrong := []string{
		" ", "  ", "   ", "\t", "\r", "\x00", "-", "0", "1", "-1", "0 0", "0 1 2 1 7 0 0", "1 0 1", "ok", "error", "y", "n", "what", "help", "end", "tell 0 1", "heard 0", "lost 0", "fell 0 0", "risen 0", "move", "again", "wait", "copy 0", "hand 0",
		"asks 0 1 1 0 0 0 0", "Ask 0 1 1 0 0 0 0", "ASK 0 1 1 0 0 0 0", "as 0 1 1 0 0 0 0", "tol 0 1", "Told 0 1", "told0 1", "told\t0 1", "told,0,1", "told_0_1", "told-0 1", "told: 0 1", "\"told\" 0 1", "hea 0", "HEAR 0", "hear0", "hear(0)", "los 0", "twic 0", "fal 0 0", "ris 0",
		"cal", "calms", "Calm", "CALM", "calm.", "calm;", "calm;moved", "calm,moved", "mov", "moveds", "Moved", "moved!", "stat 0", "states 0", "state0", "nows 0", "Now 0", "agree", "agreed?", "Agreed", "pos", "posts", "Post", "post.", "//post", "#post", "told post", "ask calm", "post calm", "calm moved", "moved moved", "\xef\xbb\xbfpost", "p\xc3\xb6st", "\xffpost", "post\xff", "post\x00", "\x00post", "p\x00st", "post\t", "\tpost", "post\r", "post\v", "post\f", "post\xc2\xa0", "\xc2\xa0post", "post\xe2\x80\xa8",
		strings.Repeat("post", 300), strings.Repeat("x", 5000), strings.Repeat(" ", 5000), strings.Repeat("0 ", 2000), strings.Repeat("post ", 1000),
	}
	for _, base := range benchBases() {
		wantErrors(t, base, wrong)
	}
}

// A word too many, a word too few, and a blank that stands where none is to stand.
func TestBenchOfWordsTooManyOrTooFew(t *testing.T) {
	for _, base := range benchBases() {
		words, line := strings.Split(base.line, " "), base.line
		wrong := []string{line + " 0", line + " 1", line + " x", line + " -1", line + " 0 0", line + " " + line, line + strings.Repeat(" 0", 50), line + " ", line + "  ", " " + line, "  " + line, " " + line + " ", "\t" + line, line + "\t", line + "\r", line + "\x00", line + "\xff"}
		for n := 1; n < len(words); n++ {
			first, behind := strings.Join(words[:n], " "), strings.Join(words[n:], " ")
			wrong = append(wrong, first, first+" ", behind, " "+behind, first+"  "+behind, first+"   "+behind, first+"\t"+behind, first+" \t"+behind, first+"\r "+behind, first+","+behind, first+", "+behind, first+"\xc2\xa0"+behind, first+"\x00"+behind, first+" + "+behind)
			if n > 1 {
				wrong = append(wrong, first+behind)
			}
		}
		for n := range words {
			wrong = append(wrong, strings.Join(slices.Delete(slices.Clone(words), n, n+1), " "), strings.Join(slices.Insert(slices.Clone(words), n, words[n]), " "))
		}
		wantErrors(t, base, slices.DeleteFunc(wrong, func(line string) bool { return line == "" }))
	}
}

// Each word with up to ten numbers: it comes to something with as many as stand in the table alone.
func TestBenchCountsTheNumbers(t *testing.T) {
	for word, count := range benchCounts {
		for n := range 11 {
			for _, number := range []string{" 0", " 1"} {
				line := word + strings.Repeat(number, n)
				wantBenchByHand(t, line, "told 0 1\ntold 0 2\nfall 1 0\n"+line+"\n"+line+"\npost\nnow 0\nstate 1")
				if n != count {
					wantErrors(t, benchBase{[]string{"told 0 1", "told 0 2"}, "post"}, []string{line})
				}
			}
		}
	}
}

// What is no number, at each place of each line; what has 9 digits is one, though none that is in range. Whoever read more digits might have them go round to one that is.
func TestBenchOfNoNumber(t *testing.T) {
	for _, base := range benchBases() {
		words, wrong := strings.Split(base.line, " "), []string{}
		for k := 1; k < len(words); k++ {
			round := []string{"4294967296", "4294967297", "4294967301", "18446744073709551616", "18446744073709551617", "18446744073709551621", "-18446744073709551615", "-18446744073709551616", "340282366920938463463374607431768211456", "65536", "65537", "65541", "100000000", "999999999", "-100000000", "-999999999", "1000000000", "-1000000000", "-0", "-00", "+0", "+1", "1.", ".0", "0.0", "1,0", "1_0", "0b1", "0o1", "01", "00", "001", "1e0", "١", "०", "１", "one", "y", "ok", "''", "\"0\"", "(0)", "-", "--1", "- 1", "-\t1", "\x00", "0\x00", "\x000", "0\r", "\v0", "0\f", "0\xff"}
			for _, number := range append(notNumbersOf(words[k]), round...) {
				turned := slices.Clone(words)
				turned[k] = number
				wrong = append(wrong, strings.Join(turned, " "))
			}
		}
		wantErrors(t, base, wrong)
	}
}

// A house, a person, a kind, a place or a set that is out of range.
func TestBenchOutOfRange(t *testing.T) {
	wrong := []string{"told 0 0", "told 0 7", "told 0 -1", "told 1 0", "told 1 7", "fall 0 -1", "fall 0 256", "fall 1 -1", "fall 1 256", "fall 0 999999999", "hear -1", "lose -1", "twice -1", "hear 40", "lose 40", "twice 40", "hear 3", "lose 3", "twice 3"}
	for _, node := range []int64{-999999999, -2, -1, 2, 3, 999999999} {
		for _, line := range []string{"ask %d 1 1 0 0 0 0", "ask %d 1 2 0 5 0 0", "ask %d 1 11 0 0 0 0", "told %d 1", "told %d 2", "told %d 6", "fall %d 0", "fall %d 255", "rise %d", "state %d", "now %d"} {
			wrong = append(wrong, fmt.Sprintf(line, node))
		}
	}
	for _, who := range []int64{-999999999, -1, 4, 5, 999999999} {
		for _, line := range []string{"ask 0 %d 1 0 0 0 0", "ask 0 %d 2 0 5 0 0", "ask 0 %d 6 0 5 0 0", "ask 0 %d 12 0 0 0 0", "ask 1 %d 1 0 0 0 0"} {
			wrong = append(wrong, fmt.Sprintf(line, who))
		}
	}
	for _, base := range benchBases() {
		wantErrors(t, base, wrong)
	}
}

// What a house refuses, or the pair, leaves all as it was.
func TestBenchOfWhatIsRefused(t *testing.T) {
	none := []string{"told 1 1", "told 1 2", "told 1 3", "told 1 4", "told 1 5", "told 1 6", "rise 2"}
	full := append([]string{"told 0 1"}, slices.Repeat([]string{"told 0 2"}, 39)...)
	for _, one := range []struct {
		before []string
		wrong  []string
		line   string
	}{
		{nil, []string{"rise 0", "rise 1", "hear 0", "lose 0", "twice 0", "told 0 2", "told 0 3", "told 0 4", "told 0 5", "told 0 6"}, "told 0 1"},
		{[]string{"told 0 1"}, []string{"told 0 1", "told 0 3", "told 0 4", "told 0 5", "hear 1", "lose 1", "twice 1", "rise 0"}, "told 0 6"},
		{[]string{"told 0 1", "hear 0", "hear 0", "told 0 3", "told 0 3", "told 0 3"}, []string{"told 0 1", "told 0 4", "told 0 5", "hear 3", "lose 3", "twice 3"}, "told 0 3"},
		{handedLines[:len(handedLines)-1], []string{"told 0 1", "told 0 3", "told 0 5", "hear 0", "lose 0", "twice 0"}, "told 0 4"},
		{handedLines, []string{"told 0 1", "told 0 3", "told 0 4", "hear 1", "rise 0", "rise 1"}, "told 0 5"},
		{[]string{"fall 0 0"}, []string{"fall 0 0", "fall 0 255", "told 0 1", "told 0 6", "ask 0 1 1 0 0 0 0", "ask 0 1 2 0 5 0 0", "ask 0 1 11 0 0 0 0", "rise 1"}, "rise 0"},
		{[]string{"fall 1 0"}, []string{"fall 1 0", "fall 1 9", "ask 1 1 1 0 0 0 0", "ask 1 1 2 0 5 0 0", "rise 0"}, "rise 1"},
		{full, []string{"told 0 2", "twice 0", "twice 39", "hear 40", "lose 40", "twice 40", "told 0 1"}, "hear 0"},
		{append(slices.Clone(handedLines), "hear 0", "hear 0"), []string{"told 0 1", "told 0 2", "told 0 3", "told 0 4", "told 0 5", "told 0 6", "hear 0"}, "told 1 1"},
	} {
		wrong := one.wrong
		if one.line != "told 1 1" {
			wrong = append(wrong, none...)
		}
		wantErrors(t, benchBase{one.before, one.line}, wrong)
		for _, line := range wrong {
			wantErrors(t, benchBase{one.before, one.line}, []string{line})
		}
	}
}

// Bytes of any kind at each place of a line.
func TestBenchOfOtherBytes(t *testing.T) {
	t.Parallel()
	for _, base := range benchBases() {
		lines := []string{}
		for at := range len(base.line) + 1 {
			for _, b := range []byte("\x00\x01\t\v\f\r\x1b !+-.0159:aApx_\x7f\x80\x85\xa0\xc2\xe2\xfe\xff") {
				lines = append(lines, base.line[:at]+string([]byte{b})+base.line[at:])
				if at < len(base.line) {
					lines = append(lines, base.line[:at]+string([]byte{b})+base.line[at+1:])
				}
			}
		}
		for part := range slices.Chunk(lines, 150) {
			wantBenchByHand(t, "other bytes", strings.Join(slices.Concat(base.before, part, []string{base.line}, benchLooks[:14]), "\n"))
		}
	}
	for b := range 256 {
		if b != 10 {
			one := string([]byte{byte(b)})
			wantBench(t, "one byte", one, "error\n")
			wantBench(t, "one byte to a line", one+"\n"+one+"\n\n"+one+"\npost"+one+"\n"+one+"post\npost\n"+one, "error\nerror\nerror\nerror\nerror\n0\nerror\n")
		}
	}
}

// Lines without a byte are passed over; the last line may lack its byte 10.
func TestBenchOfLinesWithoutAByte(t *testing.T) {
	for _, one := range []struct{ text, want string }{
		{"", ""}, {"\n", ""}, {"\n\n", ""}, {strings.Repeat("\n", 200), ""},
		{"post", "0\n"}, {"post\n", "0\n"}, {"\npost", "0\n"}, {"\npost\n", "0\n"}, {"post\n\n", "0\n"}, {"\n\n\npost\n\n\n", "0\n"},
		{"told 0 1\npost", "ok\n1\n"}, {"told 0 1\npost\n", "ok\n1\n"}, {"told 0 1\n\npost\n", "ok\n1\n"}, {"\ntold 0 1\n\n\npost\n\nhear 0\n\n", "ok\n1\nok\n"},
		{"x", "error\n"}, {"x\n", "error\n"}, {"\nx", "error\n"}, {"x\nx", "error\nerror\n"}, {"x\n\nx\n", "error\nerror\n"},
		{" ", "error\n"}, {" \n", "error\n"}, {" \n ", "error\nerror\n"}, {"\n \n", "error\n"}, {"post\n ", "0\nerror\n"}, {" \npost", "error\n0\n"},
		{"post\r\n", "error\n"}, {"\r\n", "error\n"}, {"post\r\npost\n", "error\n0\n"}, {"post\rpost", "error\n"}, {"\r", "error\n"}, {"\n\r", "error\n"},
		{"post\x00", "error\n"}, {"post\n\x00", "0\nerror\n"}, {"\x00\npost", "error\n0\n"}, {"\xff\n\t\npost", "error\nerror\n0\n"}, {"post\\npost", "error\n"}, {"post\v", "error\n"}, {"post\xe2\x80\xa8post", "error\n"}, {"post\xc2\x85post", "error\n"},
		{"told 0\n1", "error\nerror\n"}, {"told\n0 1", "error\nerror\n"}, {"to\nld 0 1\npost", "error\nerror\n0\n"},
	} {
		wantBench(t, fmt.Sprintf("%q", one.text), one.text, one.want)
		wantBenchByHand(t, "by hand", one.text)
	}
}

// A text of just MaxBench bytes is answered, one of more is not, whatever it is made of.
func TestBenchOfMaxBench(t *testing.T) {
	const limit = 20000
	fill := func(first, with string, last string) string {
		return first + strings.Repeat(with, limit)[:limit-len(first)-len(last)] + last
	}
	for _, one := range []struct{ text, want string }{
		{fill("post\n", "x", ""), "0\nerror\n"}, {fill("post\n", "x", "\n"), "0\nerror\n"}, {fill("post\n", "x", "\npost"), "0\nerror\n0\n"}, {fill("", "x", "\npost\n"), "error\n0\n"},
		{fill("", "x", ""), "error\n"}, {fill("", " ", ""), "error\n"}, {fill("", "0", ""), "error\n"}, {fill("", "\x00", ""), "error\n"}, {fill("", "\xff", ""), "error\n"}, {fill("", "\xc3\xa9", ""), "error\n"},
		{fill("hear", " 0", ""), "error\n"}, {fill("hear ", "0", ""), "error\n"}, {fill("hear ", "9", "\npost\n"), "error\n0\n"}, {fill("post", " ", ""), "error\n"}, {fill("", " ", "post"), "error\n"}, {fill("told 0 1\n", "post ", "\npost"), "ok\nerror\n1\n"},
		{strings.Repeat(strings.Repeat("x", 99)+"\n", 200), strings.Repeat("error\n", 200)}, {strings.Repeat("post\n", 199) + strings.Repeat("x", limit-5*199), strings.Repeat("0\n", 199) + "error\n"},
	} {
		if len(one.text) != limit {
			t.Fatalf("%.40q has %d bytes", one.text, len(one.text))
		}
		wantBench(t, "of MaxBench bytes", one.text, one.want)
		wantBench(t, "of one less", one.text[1:], benchByHand(one.text[1:]))
		for _, more := range []string{"x", "\n", " ", "\x00", "\xff", "0", "xx", "\n\n", "\npost\n", one.text, strings.Repeat("\n", 200)} {
			wantBench(t, "of more than MaxBench bytes", one.text+more, "")
			wantBench(t, "of more than MaxBench bytes", more+one.text, "")
		}
	}
	for _, long := range []string{strings.Repeat("x", 1<<24), strings.Repeat("post\n", 1<<20), strings.Repeat("\n", 1<<24), strings.Repeat(" ", 20001), strings.Repeat("\xc3\xa9", 10001)} {
		wantBench(t, "far more than MaxBench bytes", long, "")
	}
}

// A text of just MaxLines lines is answered, one of more is not: all lines count, those without a byte too, and the last one that lacks its byte 10.
func TestBenchOfMaxLines(t *testing.T) {
	for _, line := range []string{"post", "x", " ", "told 0 1", "now 0"} {
		for _, n := range []int{1, 2, 100, 199, 200, 201, 202, 400, 1000} {
			lines, ends := strings.Repeat(line+"\n", n), strings.Repeat("\n", n)
			for _, text := range []string{lines, lines[:len(lines)-1], lines + "\n", "\n" + lines, lines[:len(lines)-1] + "\n\n", ends, ends + line, ends + line + "\n", line + ends, line + "\n" + ends, ends + line + ends, ends + lines, strings.Repeat("\n"+line+"\n", n/2), strings.Repeat("\n"+line+"\n", n/2) + line} {
				wantBenchByHand(t, fmt.Sprint("so many lines: ", n), text)
			}
		}
	}
	ends := strings.Repeat("\n", 199)
	for _, one := range []struct{ text, want string }{
		{strings.Repeat("post\n", 200), strings.Repeat("0\n", 200)}, {strings.Repeat("post\n", 199) + "post", strings.Repeat("0\n", 200)}, {strings.Repeat("post\n", 199), strings.Repeat("0\n", 199)},
		{strings.Repeat("post\n", 201), ""}, {strings.Repeat("post\n", 200) + "post", ""}, {strings.Repeat("post\n", 200) + "\n", ""}, {"\n" + strings.Repeat("post\n", 200), ""}, {strings.Repeat("post\n", 200) + " ", ""},
		{ends + "post", "0\n"}, {ends + "post\n", "0\n"}, {ends + "post\n\n", ""}, {ends + "\npost", ""}, {ends + "\n", ""}, {"post" + ends, "0\n"}, {"post\n" + ends, "0\n"}, {"post\n\n" + ends, ""}, {"post\n" + ends + "x", ""}, {"post" + ends + "x", "0\nerror\n"},
	} {
		wantBench(t, "about MaxLines lines", one.text, one.want)
	}
}

// Promise 21: any text is answered, and as told by hand.
func TestBenchOfAnyText(t *testing.T) {
	t.Parallel()
	source := rand.New(rand.NewSource(21))
	pieces := []string{"ask", "told", "hear", "lose", "twice", "fall", "rise", "calm", "moved", "state", "now", "agreed", "post", " ", " ", " ", " ", "\n", "\n", "\n", "0", "1", "2", "6", "-", "9", "12", "255", "x", "\r", "\t", "\x00", "\xff", " 0", " 1", "0\n", "1\n", "told 0 1\n", "hear 0\n", "told 0 3\n"}
	for range 4000 {
		text := ""
		for range source.Intn(120) {
			text += pieces[source.Intn(len(pieces))]
		}
		wantBenchByHand(t, "of pieces", text)
	}
	for range 4000 {
		bytes := make([]byte, source.Intn(300))
		source.Read(bytes)
		for k := range bytes {
			if source.Intn(4) == 0 {
				bytes[k] = "\n 0123456789-askhermovdcl"[source.Intn(25)]
			}
		}
		wantBenchByHand(t, "of bytes", string(bytes))
	}
}

// What is answered is new memory: it is no piece of the text.
func TestBenchSharesNothing(t *testing.T) {
	for _, text := range []string{"error", "ok\nerror\n", "post", "0\n", strings.Repeat("error\n", 200), "told 0 1\nnow 0\n0 0 0 0\nok\n"} {
		given := strings.Clone(text)
		if got := impl.Bench(given); sharesMemory(got, given) || given != text {
			t.Errorf("what answers %q is a piece of it", text)
		}
	}
}
