package tests

import (
	"fmt"
	"regexp"
	"slices"
	"strconv"
	"strings"
	"testing"

	"loop.example/g00354/impl"
)

// How many numbers stand behind each word of the table.
var benchCounts = map[string]int{
	"ask": 7, "told": 2, "hear": 1, "lose": 1, "twice": 1, "fall": 2, "rise": 1,
	"calm": 0, "moved": 0, "state": 1, "now": 1, "agreed": 0, "post": 0,
}

// A line with a word and numbers, one blank ahead of each.
var benchLine = regexp.MustCompile(`^([a-z]+)((?: (?:0|-?[1-9][0-9]{0,8}))*)$`)

var benchKinds = map[string]int64{
	"told": impl.AcTold, "hear": impl.AcHear, "lose": impl.AcLose, "twice": impl.AcTwice, "fall": impl.AcFall, "rise": impl.AcRise,
}

// lineByHand tells the chapter a second time, by the functions of the chapters ahead of it.
func lineByHand(p impl.Pair, line string) (impl.Pair, string) {
	parts := benchLine.FindStringSubmatch(line)
	if parts == nil {
		return p, "error"
	}
	numbers, n := strings.Fields(parts[2]), [8]int64{}
	if count, known := benchCounts[parts[1]]; !known || count != len(numbers) {
		return p, "error"
	}
	for k, number := range numbers {
		n[k], _ = strconv.ParseInt(number, 10, 64)
	}
	switch word := parts[1]; word {
	case "ask":
		return askedLineByHand(p, n)
	case "told", "fall":
		return actedLineByHand(p, impl.Act{Kind: benchKinds[word], Node: n[0], N: n[1]})
	case "hear", "lose", "twice":
		return actedLineByHand(p, impl.Act{Kind: benchKinds[word], N: n[0]})
	case "rise":
		return actedLineByHand(p, impl.Act{Kind: benchKinds[word], Node: n[0]})
	default:
		return toldLineByHand(p, word, n[0])
	}
}

func askedLineByHand(p impl.Pair, n [8]int64) (impl.Pair, string) {
	c := impl.Cmd{Op: n[2], At: n[3], A: n[4], B: n[5], Kind: n[6]}
	if !impl.CmdOk(c) {
		return p, "error"
	}
	after, answer, done := impl.Happen(p, askOf(n[0], n[1], impl.ShowCmd(c)))
	switch {
	case !done:
		return after, "error"
	case answer.Text == "":
		return after, fmt.Sprint(answer.Status)
	}
	return after, fmt.Sprintf("%d %s", answer.Status, answer.Text)
}

func actedLineByHand(p impl.Pair, a impl.Act) (impl.Pair, string) {
	after, _, done := impl.Happen(p, a)
	if !done {
		return after, "error"
	}
	return after, "ok"
}

func toldLineByHand(p impl.Pair, word string, node int64) (impl.Pair, string) {
	isNode := node == 0 || node == 1
	switch {
	case word == "calm":
		p = impl.Calm(p)
		return p, fmt.Sprint(impl.OwnerOf(p))
	case word == "moved":
		p = impl.Moved(p)
		return p, fmt.Sprint(impl.OwnerOf(p))
	case word == "agreed" && impl.Agreed(p):
		return p, "y"
	case word == "agreed":
		return p, "n"
	case word == "post":
		return p, fmt.Sprint(len(p.Post))
	case word == "state" && isNode:
		r := p.Nodes[node].Record
		return p, fmt.Sprintf("%d %d", r.Epoch, r.State)
	case word == "now" && isNode:
		return p, strings.Trim(fmt.Sprint(p.Nodes[node].Disk.Now), "[]")
	}
	return p, "error"
}

func benchByHand(text string) string {
	count := strings.Count(text, "\n")
	if text != "" && text[len(text)-1] != 10 {
		count++
	}
	if len(text) > 20000 || count > 200 {
		return ""
	}
	p, _ := impl.NewPair(4)
	answers := ""
	for line := range strings.SplitSeq(text, "\n") {
		if line == "" {
			continue
		}
		after, answer := lineByHand(p, line)
		p, answers = after, answers+answer+"\n"
	}
	return answers
}

func wantBench(t *testing.T, what, text, want string) {
	t.Helper()
	got := impl.Bench(text)
	if got == want {
		return
	}
	lines, gots, wants := slices.DeleteFunc(strings.Split(text, "\n"), func(line string) bool { return line == "" }), strings.Split(got, "\n"), strings.Split(want, "\n")
	for k := range min(len(lines), len(gots), len(wants)) {
		if gots[k] != wants[k] {
			t.Fatalf("%s: line %d is %.200q, behind %q: %.200q, not %.200q", what, k, lines[k], lines[max(0, k-12):k], gots[k], wants[k])
		}
	}
	t.Fatalf("%s: Bench of %.400q is %.400q, not %.400q", what, text, got, want)
}

func wantBenchByHand(t *testing.T, what, text string) {
	t.Helper()
	wantBench(t, what, text, benchByHand(text))
}

// A benchStep is a line, and what answers it.
type benchStep struct{ line, answer string }

// stepsOf reads lines with their answers behind " = ".
func stepsOf(lines ...string) []benchStep {
	steps := []benchStep{}
	for _, one := range lines {
		line, answer, _ := strings.Cut(one, " = ")
		steps = append(steps, benchStep{line, answer})
	}
	return steps
}

// okFor are lines that are answered ok.
func okFor(lines ...string) []benchStep {
	steps := []benchStep{}
	for _, line := range lines {
		steps = append(steps, benchStep{line, "ok"})
	}
	return steps
}

func textAndAnswers(steps []benchStep) (text, answers string) {
	for _, step := range steps {
		text += step.line + "\n"
		answers += step.answer + "\n"
	}
	return text, answers
}

// wantScript wants the answers that are written there, and the chapter told a second time to tell them, too.
func wantScript(t *testing.T, what string, rows ...[]benchStep) {
	t.Helper()
	text, answers := textAndAnswers(slices.Concat(rows...))
	wantBench(t, what, text, answers)
	if byHand := benchByHand(text); byHand != answers {
		t.Fatalf("%s: by hand it is %q, not %q", what, byHand, answers)
	}
}

func TestBenchNames(t *testing.T) {
	if impl.MaxBench != 20000 || impl.MaxLines != 200 {
		t.Errorf("MaxBench = %d, MaxLines = %d", impl.MaxBench, impl.MaxLines)
	}
}

// A bench begins with a new pair of 4 blocks: 0 owns it.
func TestBenchBeginsWithANewPair(t *testing.T) {
	wantScript(t, "new", stepsOf(
		"state 0 = 1 1", "state 1 = 0 3", "now 0 = 0 0 0 0", "now 1 = 0 0 0 0", "post = 0", "agreed = y",
		"ask 0 0 11 0 0 0 0 = 0 0", "ask 0 0 12 0 0 0 0 = 0 0 0 0", "ask 0 0 1 3 0 0 0 = 0 0", "ask 0 0 1 4 0 0 0 = 1",
		"rise 0 = error", "rise 1 = error", "hear 0 = error", "calm = 0", "state 0 = 1 1", "state 1 = 0 3",
	))
	// Nothing is kept from one text to the next.
	wantScript(t, "moved", stepsOf("moved = 1", "ask 1 0 2 0 7 0 0 = 0"))
	wantScript(t, "new again", stepsOf("state 0 = 1 1", "now 1 = 0 0 0 0", "ask 1 0 1 0 0 0 0 = 6"))
}

// Promise 20: moved while it is in use and held. What was written at one house is read at the other one, and who was barred is barred there.
func TestBenchMovesWhatIsInUse(t *testing.T) {
	wantScript(t, "there and back", stepsOf(
		"ask 0 1 6 0 5 0 0 = 0", "ask 0 2 6 0 7 0 0 = 0", "ask 0 1 7 0 0 0 2 = 0",
		"ask 0 1 2 0 11 0 0 = 0", "ask 0 2 1 0 0 0 0 = 3", "ask 0 3 2 1 1 0 0 = 3",
	), okFor("told 0 1", "hear 0", "hear 0", "told 0 3"), stepsOf(
		"post = 1", "ask 0 1 2 0 12 0 0 = 0", "ask 0 1 1 0 0 0 0 = 0 12", "hear 0 = ok", "now 1 = 11 0 0 0", "hear 0 = ok", "told 0 4 = error",
	), okFor("told 0 3", "told 0 3", "told 0 3", "told 0 3"), stepsOf("told 0 3 = error", "post = 4", "told 0 4 = error"),
		okFor("hear 0", "hear 0", "hear 0", "hear 0"), stepsOf("now 1 = 12 0 0 0", "told 0 4 = error"),
		okFor("hear 0", "hear 0", "hear 0", "hear 0", "told 0 4"), stepsOf(
			"state 0 = 1 2", "ask 0 1 1 0 0 0 0 = 5", "ask 1 1 1 0 0 0 0 = 6", "agreed = y",
			"hear 0 = ok", "state 1 = 2 1", "ask 1 1 1 0 0 0 0 = 0 12", "ask 1 2 1 0 0 0 0 = 3", "ask 1 3 2 1 1 0 0 = 3", "ask 0 1 1 0 0 0 0 = 5",
			"hear 0 = ok", "state 0 = 2 3", "ask 0 1 1 0 0 0 0 = 6", "ask 1 2 11 0 0 0 0 = 0 2 5 7", "ask 1 0 12 0 0 0 0 = 0 2 2 5", "agreed = y",
			"moved = 0", "state 0 = 3 1", "state 1 = 3 3", "ask 0 1 1 0 0 0 0 = 0 12", "ask 0 2 1 0 0 0 0 = 3", "ask 1 1 1 0 0 0 0 = 6",
			"ask 0 2 10 0 5 1 1 = 0", "ask 0 1 1 0 0 0 0 = 0 12", "ask 0 1 2 0 1 0 0 = 3", "ask 0 2 2 3 9 0 0 = 0",
			"moved = 1", "ask 1 1 2 0 1 0 0 = 3", "ask 1 1 1 3 0 0 0 = 0 9", "ask 1 2 2 0 1 0 0 = 0", "ask 1 1 1 0 0 0 0 = 0 1",
			"now 0 = 12 0 0 9", "now 1 = 1 0 0 9", "agreed = y", "post = 0",
		))
}

// What is lost, comes twice or comes late, and a house that falls, bring nobody in who was barred, and nothing back.
func TestBenchMovesWithMishaps(t *testing.T) {
	wantScript(t, "with mishaps", stepsOf(
		"ask 0 1 6 0 5 0 0 = 0", "ask 0 1 7 0 0 0 2 = 0", "ask 0 1 2 0 5 0 0 = 0", "ask 0 1 5 0 0 0 0 = 0", "ask 0 1 2 1 6 0 0 = 0",
	), okFor("told 0 1", "twice 0", "lose 1", "told 0 2", "hear 0", "hear 1", "hear 0", "hear 0", "fall 0 1"), stepsOf(
		"now 0 = 5 0 0 0", "ask 0 1 1 0 0 0 0 = error", "ask 0 2 1 0 0 0 0 = error", "rise 0 = ok", "ask 0 1 1 1 0 0 0 = 0 0", "ask 0 2 1 1 0 0 0 = 3", "agreed = y",
	), okFor("told 0 1", "hear 0", "fall 1 0", "rise 1", "hear 0"), stepsOf("told 0 3 = ok", "hear 0 = ok", "post = 0", "calm = 0", "moved = 1", "now 1 = 5 0 0 0", "ask 1 2 1 0 0 0 0 = 3", "ask 1 1 1 0 0 0 0 = 0 5", "agreed = y"))
	wantScript(t, "handed over and taken late", okFor("told 0 1", "hear 0", "hear 0", "told 0 3", "told 0 3", "told 0 3", "told 0 3", "hear 0", "hear 0", "hear 0", "hear 0", "hear 0", "hear 0", "hear 0", "hear 0"),
		stepsOf("told 0 4 = ok", "twice 0 = ok", "told 0 5 = ok", "told 0 6 = ok", "post = 4", "hear 3 = ok", "post = 4", "hear 3 = ok", "state 0 = 1 1", "state 1 = 0 3", "hear 0 = ok", "hear 0 = ok", "hear 0 = ok", "post = 0", "ask 0 1 2 0 1 0 0 = 0", "agreed = y", "calm = 0"))
}

// An askForm is an Op with fields that may stand in a line, and what answers it where nobody else holds the store.
type askForm struct{ fields, answer string }

func askForms() []askForm {
	return []askForm{
		{"1 0 0 0 0", "0 0"}, {"2 0 1 0 0", "0"}, {"3 0 1 4 0", "0"}, {"4 0 0 0 0", "0"}, {"5 0 0 0 0", "0"}, {"6 0 5 0 0", "0"},
		{"7 0 0 0 1", "0"}, {"10 0 5 1 2", "0"}, {"11 0 0 0 0", "0 2 5"}, {"12 0 0 0 0", "0 2 2 5"}, {"8 0 0 0 0", "0"}, {"9 0 0 0 0", "0"},
	}
}

// The twelve Ops, one behind the other, at either house, and what answers them where another house owns, hands over or is down.
func TestBenchAsksEachOp(t *testing.T) {
	rows := func(node, who int64, answer string) []benchStep {
		steps := []benchStep{}
		for _, f := range askForms() {
			step := benchStep{fmt.Sprintf("ask %d %d %s", node, who, f.fields), f.answer}
			if answer != "" {
				step.answer = answer
			}
			steps = append(steps, step)
		}
		return steps
	}
	handed := okFor("told 0 1", "hear 0", "hear 0", "told 0 3", "told 0 3", "told 0 3", "told 0 3", "hear 0", "hear 0", "hear 0", "hear 0", "hear 0", "hear 0", "hear 0", "hear 0", "told 0 4")
	for who := range int64(4) {
		wantScript(t, "at 0", rows(0, who, ""), stepsOf("now 0 = 0 0 0 0", "agreed = y"))
		wantScript(t, "at 1", stepsOf("moved = 1"), rows(1, who, ""), rows(0, who, "6"), stepsOf("agreed = y"))
		wantScript(t, "at the other one", rows(1, who, "6"), stepsOf("now 0 = 0 0 0 0", "now 1 = 0 0 0 0"))
		wantScript(t, "handing over", handed, rows(0, who, "5"), rows(1, who, "6"), stepsOf("now 0 = 0 0 0 0"))
		wantScript(t, "down", okFor("fall 0 0", "fall 1 0"), rows(0, who, "error"), rows(1, who, "error"), okFor("rise 0"), rows(0, who, ""))
	}
	for _, who := range []int64{-1, 4, 999999999} {
		wantScript(t, "nobody", rows(0, who, "error"), rows(1, who, "error"), rows(2, 0, "error"), rows(-1, 0, "error"), stepsOf("moved = 1"), rows(1, who, "error"))
	}
}

// Each Status of the store, with a Text and without one, and the fields that each Op tells of.
func TestBenchTellsStatusAndText(t *testing.T) {
	wantScript(t, "blocks", stepsOf(
		"ask 0 1 2 1 7 0 0 = 0", "ask 0 1 1 1 0 0 0 = 0 7", "ask 0 1 2 3 9999 0 0 = 0", "ask 0 1 1 3 0 0 0 = 0 9999",
		"ask 0 1 1 4 0 0 0 = 1", "ask 0 1 1 255 0 0 0 = 1", "ask 0 1 2 4 1 0 0 = 1", "ask 0 1 2 0 10000 0 0 = 1", "ask 0 1 2 0 65535 0 0 = 1",
		"ask 0 1 3 1 7 8 0 = 0", "ask 0 1 3 1 7 9 0 = 2 8", "ask 0 1 3 2 1 5 0 = 2 0", "ask 0 1 3 1 7 10000 0 = 1", "ask 0 1 3 4 0 0 0 = 1", "ask 0 1 3 1 65535 65535 0 = 1", "ask 0 1 3 1 65535 1 0 = 2 8",
		"now 0 = 0 8 0 9999", "ask 0 1 4 1 0 0 0 = 0", "ask 0 1 4 4 0 0 0 = 1", "now 0 = 0 0 0 9999", "ask 0 1 5 0 0 0 0 = 0", "fall 0 0 = ok", "now 0 = 0 0 0 9999",
	))
	wantScript(t, "who holds it", stepsOf(
		"ask 0 1 7 0 0 0 1 = 3", "ask 0 1 8 0 0 0 0 = 3", "ask 0 1 9 0 0 0 0 = 3", "ask 0 1 10 0 5 1 1 = 3",
		"ask 0 1 6 0 9999 0 0 = 0", "ask 0 2 6 0 6 0 0 = 0", "ask 0 1 7 0 0 0 5 = 0", "ask 0 2 7 0 0 0 5 = 0", "ask 0 2 7 0 0 0 6 = 3", "ask 0 3 2 0 1 0 0 = 3", "ask 0 3 1 0 0 0 0 = 0 0", "ask 0 2 2 0 1 0 0 = 0",
		"ask 0 3 11 0 0 0 0 = 0 2 9999 6", "ask 0 3 12 0 0 0 0 = 0 2 5 0", "ask 0 1 10 0 0 1 1 = 1", "ask 0 1 10 0 7 1 1 = 3", "ask 0 1 10 0 6 9999 6 = 0", "ask 0 2 1 0 0 0 0 = 3", "ask 0 1 1 0 0 0 0 = 0 1",
		"ask 0 3 12 0 0 0 0 = 0 3 6 0", "ask 0 1 8 0 0 0 0 = 0", "ask 0 3 12 0 0 0 0 = 0 3 0 0", "ask 0 1 6 0 0 0 0 = 0", "ask 0 3 11 0 0 0 0 = 0 4", "agreed = y",
	))
}

// What is not CmdOk is error, whatever a house would have told of it, and of a house that does not own, too.
func TestBenchAsksNothingThatIsNoCommand(t *testing.T) {
	steps := []benchStep{}
	for _, fields := range []string{
		"0 0 0 0 0", "13 0 0 0 0", "-1 0 0 0 0", "256 0 0 0 0", "257 0 0 0 0", "999999999 0 0 0 0",
		"1 -1 0 0 0", "1 256 0 0 0", "1 0 1 0 0", "1 0 0 1 0", "1 0 0 0 1", "2 0 -1 0 0", "2 0 65536 0 0", "2 0 0 1 0", "2 256 0 0 0", "2 0 0 0 1",
		"3 0 0 -1 0", "3 0 0 65536 0", "3 0 65536 0 0", "3 0 0 0 1", "4 0 1 0 0", "4 -1 0 0 0", "5 1 0 0 0", "5 0 1 0 0", "5 0 0 0 1",
		"6 0 -1 0 0", "6 0 10000 0 0", "6 1 1 0 0", "6 0 1 1 0", "6 0 1 0 1", "7 0 0 0 0", "7 0 0 0 7", "7 0 0 0 -1", "7 0 1 0 1", "7 0 0 1 1", "7 1 0 0 1",
		"8 1 0 0 0", "8 0 0 0 1", "9 0 1 0 0", "9 0 0 1 0", "10 0 5 0 1", "10 0 5 10000 1", "10 0 10000 1 1", "10 0 -1 1 1", "10 0 5 1 0", "10 0 5 1 7", "10 1 5 1 1", "11 0 0 0 1", "11 1 0 0 0", "12 0 1 0 0", "12 0 0 1 0",
	} {
		for node := range 2 {
			steps = append(steps, benchStep{fmt.Sprintf("ask %d 1 %s", node, fields), "error"})
		}
	}
	wantScript(t, "no commands", stepsOf("ask 0 1 6 0 5 0 0 = 0"), steps, stepsOf("ask 0 1 11 0 0 0 0 = 0 1 5", "now 0 = 0 0 0 0", "agreed = y"))
	wantScript(t, "no commands elsewhere", stepsOf("moved = 1"), steps, stepsOf("agreed = y"))
}

// Each kind that a house is told, where it can be done, where it can not, and where it brings nothing new.
func TestBenchTellsEachKind(t *testing.T) {
	wantScript(t, "told", stepsOf(
		"told 0 2 = error", "told 0 3 = error", "told 0 4 = error", "told 0 5 = error", "told 0 6 = error", "told 0 0 = error", "told 0 7 = error", "told 0 -1 = error",
		"told 0 1 = ok", "post = 1", "told 0 1 = error", "told 0 3 = error", "told 0 2 = ok", "post = 2", "hear 1 = ok", "hear 0 = ok", "hear 0 = ok", "hear 0 = ok", "post = 0",
		"told 0 2 = ok", "post = 0", "told 0 3 = ok", "told 0 2 = ok", "post = 1", "told 0 3 = ok", "post = 2", "told 0 4 = error", "told 0 6 = ok", "told 0 6 = error", "told 0 2 = error", "post = 2",
		"told 1 1 = error", "told 1 2 = error", "told 1 3 = error", "told 1 4 = error", "told 1 5 = error", "told 1 6 = error", "told 2 1 = error", "told -1 1 = error",
		"hear 0 = ok", "hear 0 = ok", "post = 2", "hear 0 = ok", "hear 0 = ok", "post = 0", "told 0 1 = ok", "calm = 0", "told 0 1 = error", "told 0 6 = ok", "told 0 1 = ok",
	))
	wantScript(t, "told by who hands over", okFor("told 0 1", "hear 0", "hear 0", "told 0 3", "told 0 3", "told 0 3", "told 0 3", "hear 0", "hear 0", "hear 0", "hear 0", "hear 0", "hear 0", "hear 0", "hear 0", "told 0 4"), stepsOf(
		"told 0 1 = error", "told 0 3 = error", "told 0 4 = error", "told 0 2 = ok", "post = 1", "told 0 5 = ok", "post = 2", "told 0 6 = ok", "post = 3", "fall 0 0 = ok", "told 0 5 = error", "told 0 6 = error",
		"rise 0 = ok", "told 0 2 = error", "told 0 5 = ok", "told 0 6 = ok", "post = 5", "state 0 = 1 2", "hear 0 = ok", "state 1 = 2 1", "hear 4 = ok", "state 0 = 2 3", "agreed = y",
	))
}

// Letters that are there are heard, lost and there twice; past the last one, and below 0, there is none.
func TestBenchHearsLosesAndHasTwice(t *testing.T) {
	none := func(n int) []benchStep {
		steps := []benchStep{}
		for _, word := range []string{"hear", "lose", "twice"} {
			for _, at := range []int{n, n + 1, 39, 40, 41, 999999999, -1, -2, -999999999} {
				if at >= n || at < 0 {
					steps = append(steps, benchStep{fmt.Sprint(word, " ", at), "error"})
				}
			}
		}
		return append(steps, benchStep{"post", fmt.Sprint(n)})
	}
	wantScript(t, "one", none(0), okFor("told 0 1"), none(1), okFor("twice 0"), none(2), okFor("twice 1", "lose 0"), none(2), okFor("lose 1", "hear 0"))
	wantScript(t, "in their order", okFor("told 0 1", "hear 0", "hear 0", "told 0 3", "told 0 3", "told 0 3"), none(3), okFor("twice 1", "lose 1", "hear 1"), stepsOf(
		"now 1 = 0 0 0 0", "ask 0 0 2 1 5 0 0 = 0", "told 0 3 = ok", "post = 4", "told 0 3 = ok", "post = 5", "hear 3 = ok", "now 1 = 0 5 0 0", "hear 1 = ok", "now 1 = 0 5 0 0", "post = 5",
		"lose 4 = ok", "lose 0 = ok", "lose 2 = ok", "post = 2", "lose 1 = ok", "lose 0 = ok", "lose 0 = error", "agreed = y",
	))
	full := okFor("told 0 1")
	for range 39 {
		full = append(full, okFor("told 0 2")...)
	}
	wantScript(t, "full", full, none(40), stepsOf(
		"told 0 2 = error", "twice 0 = error", "twice 39 = error", "hear 39 = ok", "post = 40", "twice 0 = error", "hear 39 = ok", "post = 39", "told 0 3 = ok", "post = 40", "lose 0 = ok", "twice 38 = ok", "post = 40",
		"hear 0 = ok", "post = 40", "lose 39 = ok", "lose 38 = ok", "lose 37 = ok", "post = 37", "calm = 0", "post = 0",
	))
}

// A house falls with sets of every kind: of what was not synced it has what the set has, be there such blocks or not.
func TestBenchFallsWithEachSet(t *testing.T) {
	t.Parallel()
	for set := int64(-3); set <= 260; set++ {
		for _, node := range []int64{0, 1} {
			for _, owner := range []int64{0, 1} {
				now, moves := [2][]int64{{0, 0, 0, 0}, {0, 0, 0, 0}}, "calm"
				if owner == 1 {
					now, moves = [2][]int64{{5, 6, 7, 8}, {5, 6, 7, 8}}, "moved"
				}
				before := []benchStep{}
				for at, value := range []int64{5, 6, 7, 8} {
					now[0][at] = value
					before = append(before, benchStep{fmt.Sprintf("ask 0 0 2 %d %d 0 0", at, value), "0"})
				}
				before = append(before, benchStep{moves, fmt.Sprint(owner)})
				if owner == 1 {
					before = append(before, stepsOf("ask 1 0 2 1 60 0 0 = 0", "ask 1 0 2 3 80 0 0 = 0")...)
					now[1] = []int64{5, 60, 7, 80}
				}
				wantFallenBench(t, before, now, owner, node, set)
			}
		}
	}
}

func wantFallenBench(t *testing.T, before []benchStep, now [2][]int64, owner, node, set int64) {
	t.Helper()
	kept, answer := [2][]int64{{0, 0, 0, 0}, {0, 0, 0, 0}}, "ok"
	if owner == 1 {
		kept = [2][]int64{{5, 6, 7, 8}, {5, 6, 7, 8}}
	}
	if set < 0 || set > 255 {
		answer = "error"
	}
	for at := range int64(4) {
		if answer == "ok" && !slices.Contains(inByHand(set), at) {
			now[node][at] = kept[node][at]
		}
	}
	show := func(list []int64) string { return strings.Trim(fmt.Sprint(list), "[]") }
	looks := stepsOf("now 0 = "+show(now[0]), "now 1 = "+show(now[1]), "agreed = y", "post = 0")
	rise, again := okFor(fmt.Sprint("rise ", node)), stepsOf(fmt.Sprintf("fall %d %d = error", node, set))
	if answer == "error" {
		rise, again = stepsOf(fmt.Sprint("rise ", node, " = error")), nil
	}
	wantScript(t, fmt.Sprintf("fall %d %d, owned by %d", node, set, owner), before, stepsOf(fmt.Sprintf("fall %d %d = %s", node, set, answer)), again, looks, rise, looks, stepsOf(fmt.Sprintf("rise %d = error", node)))
}

// inByHand are those of the first eight that are in the set.
func inByHand(set int64) []int64 {
	list := []int64{}
	for at := range int64(8) {
		if set/(1<<at)%2 == 1 {
			list = append(list, at)
		}
	}
	return list
}

// In calm, and moved, from where it was begun, copied, handed over and taken, and with houses that are down: each OwnerOf that there can be.
func TestBenchComesToCalmAndIsMoved(t *testing.T) {
	begun := okFor("told 0 1", "hear 0", "hear 0")
	copied := slices.Concat(begun, okFor("told 0 3", "told 0 3", "told 0 3", "told 0 3", "hear 0", "hear 0", "hear 0", "hear 0", "hear 0", "hear 0", "hear 0", "hear 0"))
	handed := slices.Concat(copied, okFor("told 0 4"))
	taken := slices.Concat(handed, okFor("hear 0"))
	over := slices.Concat(taken, okFor("hear 0"))
	written := stepsOf("ask 0 0 2 2 4 0 0 = 0")
	for _, one := range []struct {
		what  string
		steps []benchStep
		owner int
		calm  string
		moved string
	}{
		{"new", nil, 0, "1 1", "2"}, {"told", okFor("told 0 1"), 0, "1 1", "2"}, {"begun", begun, 0, "1 1", "2"}, {"copied", copied, 0, "1 1", "2"},
		{"handed over", handed, 0, "1 1", "2"}, {"taken", taken, 1, "2 3", "3"}, {"over", over, 1, "2 3", "3"},
	} {
		for _, falls := range [][]benchStep{nil, okFor("fall 0 4"), okFor("fall 1 4"), okFor("fall 1 4", "fall 0 4")} {
			for _, loses := range []string{"agreed = y", "lose 0 = ok"} {
				if loses == "lose 0 = ok" && one.what != "told" && one.what != "handed over" && one.what != "taken" {
					continue
				}
				steps := slices.Concat(written, one.steps, falls, stepsOf(loses))
				other := 1 - one.owner
				wantScript(t, one.what+", calm", steps, stepsOf(fmt.Sprint("calm = ", one.owner), "post = 0", "state 0 = "+one.calm, "now 0 = 0 0 4 0", fmt.Sprintf("ask %d 0 1 2 0 0 0 = 0 4", one.owner), fmt.Sprintf("ask %d 0 1 2 0 0 0 = 6", other), "rise 0 = error", "rise 1 = error", fmt.Sprint("calm = ", one.owner), "agreed = y"))
				wantScript(t, one.what+", moved", steps, stepsOf(fmt.Sprint("moved = ", other), "post = 0", fmt.Sprintf("state %d = %s 1", other, one.moved), fmt.Sprintf("state %d = %s 3", one.owner, one.moved), "now 0 = 0 0 4 0", "now 1 = 0 0 4 0", fmt.Sprintf("ask %d 0 1 2 0 0 0 = 0 4", other), fmt.Sprintf("ask %d 0 1 2 0 0 0 = 6", one.owner), "rise 0 = error", "rise 1 = error", fmt.Sprint("calm = ", other), fmt.Sprint("moved = ", one.owner), "agreed = y"))
			}
		}
	}
}

// What is told of a house is told of one that is down, too.
func TestBenchTellsOfEachHouse(t *testing.T) {
	wantScript(t, "state and now", stepsOf(
		"ask 0 0 2 0 1 0 0 = 0", "ask 0 0 2 1 22 0 0 = 0", "ask 0 0 2 2 333 0 0 = 0", "ask 0 0 2 3 4444 0 0 = 0", "now 0 = 1 22 333 4444", "now 1 = 0 0 0 0",
		"fall 0 6 = ok", "now 0 = 0 22 333 0", "state 0 = 1 1", "fall 1 0 = ok", "state 1 = 0 3", "now 1 = 0 0 0 0", "moved = 1", "now 1 = 0 22 333 0",
		"state 0 = 2 3", "state 1 = 2 1", "moved = 0", "state 0 = 3 1", "state 1 = 3 3", "moved = 1", "moved = 0", "moved = 1", "moved = 0", "moved = 1", "moved = 0", "moved = 1", "state 1 = 10 1", "state 0 = 10 3",
		"state 2 = error", "state -1 = error", "now 2 = error", "now -1 = error", "state 999999999 = error", "now -999999999 = error",
	))
}
