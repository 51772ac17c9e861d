package tests

import (
	"fmt"
	"maps"
	"math/rand"
	"slices"
	"strings"
	"sync"
	"testing"

	"loop.example/g00354/impl"
)

// lineOfCmd asks by a line. What is no command is a line, too.
func lineOfCmd(node, who int64, c impl.Cmd) string {
	return fmt.Sprintf("ask %d %d %d %d %d %d %d", node, who, c.Op, c.At, c.A, c.B, c.Kind)
}

// lineOfAct passes over Torn, of which no line tells.
func lineOfAct(a impl.Act) string {
	switch a.Kind {
	case impl.AcAsk:
		c, _ := impl.ReadCmd(a.Bytes)
		return lineOfCmd(a.Node, a.Who, c)
	case impl.AcTold:
		return fmt.Sprint("told ", a.Node, " ", a.N)
	case impl.AcHear:
		return fmt.Sprint("hear ", a.N)
	case impl.AcLose:
		return fmt.Sprint("lose ", a.N)
	case impl.AcTwice:
		return fmt.Sprint("twice ", a.N)
	case impl.AcFall:
		return fmt.Sprint("fall ", a.Node, " ", a.N)
	}
	return fmt.Sprint("rise ", a.Node)
}

// A benchRow is a text on its way: what its lines have come to, told by the functions of the chapters ahead.
type benchRow struct {
	*historyRow
	lines   []string
	answers []string
}

func newBenchRow(did map[string]int) *benchRow {
	return &benchRow{historyRow: newHistoryRow(4, did)}
}

// anyLine has a word of the table, and a few numbers behind it.
func anyLine(source *rand.Rand) string {
	words := slices.Sorted(maps.Keys(benchCounts))
	line := words[source.Intn(len(words))]
	for range source.Intn(4) {
		line += fmt.Sprint(" ", thrownNear(source, 0, 1, 7))
	}
	return line
}

// turnedLine has one thing changed, which may be right still.
func turnedLine(source *rand.Rand, line string) string {
	words := strings.Split(line, " ")
	k, at := source.Intn(len(words)), source.Intn(len(line)+1)
	switch source.Intn(8) {
	case 0:
		words[k] = ""
	case 1:
		words = slices.Delete(words, k, k+1)
	case 2:
		words = slices.Insert(words, k+1, []string{"", "0", "1", "x", "-1"}[source.Intn(5)])
	case 3:
		words[k] = []string{"01", "-0", "+1", "x", "1x", "0x1", "1.0", "-", "1234567890", "123456789", "-123456789", "-1", "9", "256", "4294967296", "18446744073709551617"}[source.Intn(16)]
	case 4:
		words[0] = []string{"asks", "Ask", "what", "tell", "error", "ok", "0", "calm", "hear", "rise"}[source.Intn(10)]
	case 5:
		return line[:at] + string([]byte{byte(source.Intn(256))}) + line[at:]
	case 6:
		return line[:at]
	default:
		return line[:at] + []string{" ", "\t", "\r", "\x00", "\xff", "0", "-"}[source.Intn(7)] + line[at:]
	}
	return strings.Join(words, " ")
}

func (r *benchRow) thrownLine(source *rand.Rand, m mood) string {
	node := source.Intn(2)
	switch source.Intn(40) {
	case 0:
		return "moved"
	case 1:
		return "calm"
	case 2, 3:
		return "agreed"
	case 4, 5:
		return "post"
	case 6, 7, 8:
		return fmt.Sprint("state ", node)
	case 9, 10, 11:
		return fmt.Sprint("now ", node)
	case 12:
		return lineOfCmd(r.inCharge(source), source.Int63n(4), thrownStoreCmd(source))
	}
	return lineOfAct(r.thrownAct(source, m))
}

// goesOn writes one line, without a byte 10, and what answers it. A turned line that has a byte 10 is passed over.
func (r *benchRow) goesOn(source *rand.Rand, m mood) {
	line := r.thrownLine(source, m)
	switch source.Intn(24) {
	case 0, 1:
		line = turnedLine(source, line)
	case 2:
		line = anyLine(source)
	case 3:
		line = ""
	}
	if strings.Contains(line, "\n") {
		return
	}
	r.lines = append(r.lines, line)
	if line == "" {
		r.did["no byte"]++
		return
	}
	after, answer := lineByHand(r.p, line)
	r.count(line, answer)
	r.p, r.answers = after, append(r.answers, answer)
}

func (r *benchRow) count(line, answer string) {
	word, _, _ := strings.Cut(line, " ")
	_, known := benchCounts[word]
	switch {
	case !known:
		r.did["no word"]++
	case answer == "error":
		r.did[word+": error"]++
	case word == "ask":
		status, _, hasText := strings.Cut(answer, " ")
		r.did[fmt.Sprint("Status ", status, ", with Text: ", hasText)]++
		r.did["Op "+strings.Split(line, " ")[3]]++
		r.did["ask"]++
	case word == "calm" || word == "moved":
		r.did[word+": "+answer]++
	case word == "now" && answer != "0 0 0 0":
		r.did["now: blocks"]++
	case word == "post" && answer != "0":
		r.did["post: letters"]++
	default:
		r.did[word]++
	}
}

// text has a last line that lacks its byte 10, half of the times.
func (r *benchRow) text() string {
	text := strings.Join(r.lines, "\n")
	if len(r.answers)%2 == 0 {
		text += "\n"
	}
	return text
}

// wantCut wants of the first lines alone the first of the answers: what comes later changes none that is there already.
func (r *benchRow) wantCut(t *testing.T, n int) {
	t.Helper()
	answered := len(slices.DeleteFunc(slices.Clone(r.lines[:n]), func(line string) bool { return line == "" }))
	want := strings.Join(append(slices.Clone(r.answers[:answered]), ""), "\n")
	wantBench(t, fmt.Sprint("cut behind ", n), strings.Join(r.lines[:n], "\n")+"\n", want)
	wantBench(t, fmt.Sprint("cut behind ", n, " ahead of the byte 10"), strings.Join(r.lines[:n], "\n"), want)
}

// Promise 20: texts of up to 200 lines of all thirteen words are answered line by line as the chapters tell, and so is each text that is cut behind a line.
func TestBenchTellsWhatTheChaptersTell(t *testing.T) {
	for seed := range int64(8) {
		t.Run(fmt.Sprint(seed), func(t *testing.T) {
			t.Parallel()
			source, did := rand.New(rand.NewSource(80+seed)), map[string]int{}
			for row := range 30 {
				r, m := newBenchRow(did), thrownHistoryMood(source)
				for len(r.lines) < []int{200, 200, 120, 30, 3}[row%5] {
					r.goesOn(source, m)
				}
				want := strings.Join(append(r.answers, ""), "\n")
				wantBench(t, "thrown", r.text(), want)
				if row == 0 {
					for n := range r.lines {
						r.wantCut(t, n)
					}
				}
				for range 4 {
					r.wantCut(t, source.Intn(len(r.lines)+1))
				}
			}
			for word := range benchCounts {
				wantEach(t, did, 1, word+": error")
			}
			wantEach(t, did, 5, "lose", "twice", "fall", "rise")
			wantEach(t, did, 20, "told", "hear", "state", "now", "agreed", "post", "ask", "no byte", "no word", "now: blocks", "post: letters")
			wantEach(t, did, 5, numberedFrom("Op ", 1, 12)...)
			wantEach(t, did, 5, "calm: 0", "calm: 1", "moved: 0", "moved: 1")
			wantEach(t, did, 1, "Status 0, with Text: true", "Status 0, with Text: false", "Status 1, with Text: false", "Status 2, with Text: true", "Status 3, with Text: false", "Status 5, with Text: false", "Status 6, with Text: false")
		})
	}
}

// Promise 20, with one line of any kind at each place of a move there and back that is written in lines.
func TestBenchWithOneLineAtEachPlace(t *testing.T) {
	t.Parallel()
	row := []string{"ask 0 1 6 0 5 0 0", "ask 0 1 7 0 0 0 2", "ask 0 1 2 1 7 0 0"}
	for _, a := range thereAndBack() {
		row = append(row, lineOfAct(a))
	}
	comes := []string{"calm", "moved", "twice 0", "lose 0", "hear 0", "hear 1", "fall 0 255", "fall 1 0", "fall 0 2\nrise 0", "fall 1 0\nrise 1", "told 0 1", "told 1 1", "told 0 6", "told 1 6", "ask 0 2 1 1 0 0 0", "ask 0 1 2 0 9 0 0", "ask 1 1 2 0 9 0 0", "ask 1 2 10 0 5 1 3", "ask 1 1 5 0 0 0 0", "error", "hear 0 "}
	for at := range row {
		for _, one := range comes {
			lines := slices.Insert(slices.Clone(row), at, one)
			wantBenchByHand(t, fmt.Sprintf("%q at %d", one, at), strings.Join(append(lines, "state 0", "state 1", "now 0", "now 1", "ask 0 2 1 1 0 0 0", "ask 1 2 1 1 0 0 0", "agreed", "post", "calm", "now 0", "now 1", "moved", "now 0", "now 1", "ask 0 2 1 1 0 0 0", "ask 1 1 1 1 0 0 0", "agreed"), "\n"))
		}
	}
}

// The most that 200 lines can bring: Events, letters, Epochs and bytes of the Logs; none of it runs full.
func TestBenchBringsNothingToItsLimit(t *testing.T) {
	t.Parallel()
	for _, one := range []string{"ask 0 0 2 0 1 0 0", "ask 0 9 2 0 1 0 0", "fall 0 3\nrise 0", "fall 1 3\nrise 1", "told 0 1\ntold 0 6", "told 0 1\ncalm", "told 0 1\nhear 0\ntold 0 6", "told 0 1", "told 0 1\ntwice 0", "calm", "moved\ncalm", "moved\nagreed"} {
		wantBenchByHand(t, one, strings.Repeat(one+"\n", 198/(1+strings.Count(one, "\n")))+"agreed\nstate 0")
	}
	steps := []benchStep{}
	for k := range 198 {
		steps = append(steps, benchStep{"moved", fmt.Sprint((k + 1) % 2)})
	}
	wantScript(t, "moved all the time", steps, stepsOf("agreed = y", "state 0 = 199 1"))
}

// Texts at once are answered as one by one.
func TestBenchAtOnce(t *testing.T) {
	source := rand.New(rand.NewSource(90))
	texts, want := []string{}, []string{}
	for range 12 {
		r, m := newBenchRow(map[string]int{}), thrownHistoryMood(source)
		for len(r.lines) < 60 {
			r.goesOn(source, m)
		}
		texts, want = append(texts, r.text()), append(want, strings.Join(append(r.answers, ""), "\n"))
	}
	var all sync.WaitGroup
	for worker := range 8 {
		all.Go(func() {
			for k := range texts {
				if at := (k + worker) % len(texts); impl.Bench(texts[at]) != want[at] {
					t.Errorf("at once, text %d is answered by something else", at)
				}
			}
		})
	}
	all.Wait()
}
