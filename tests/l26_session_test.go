package tests

import (
	"fmt"
	"math/rand/v2"
	"regexp"
	"slices"
	"strconv"
	"strings"
	"testing"

	"loop.example/eventstreams/impl"
)

// someWord returns a word where a number is expected, mostly a number in low..high or beside it, rarely one that is no number.
func someWord(r *rand.Rand, low int, high int) string {
	if r.IntN(25) == 0 {
		return []string{"", "x", "05", "00", "+5", "-0", "-1", "10000", "5.0", "1e1", "٥", "5\t", "99999999999999999999"}[r.IntN(13)]
	}
	return strconv.Itoa(oneOf(r, between(r, low, high), between(r, low, high), between(r, low, min(high, low+20)), between(r, low, min(high, low+20)), low, high, high+r.IntN(2)))
}

// someLine returns a line, mostly a command, often one that adds an event.
func someLine(r *rand.Rand) string {
	var words []string
	switch r.IntN(14) {
	case 0:
		words = []string{"list"}
	case 1:
		words = []string{"run", impl.FormatProgram(someProgram(r, 3))}
	case 2:
		words = []string{"sessions", someWord(r, 0, oneOf(r, 2, impl.MaxKey)), someWord(r, 1, impl.MaxTime)}
	case 3:
		words = []string{"windows", someWord(r, 1, 60), someWord(r, 1, 60), someWord(r, 0, impl.MaxTime)}
	case 4:
		words = []string{"late", someWord(r, 0, impl.MaxTime)}
	case 5:
		return []string{"", " ", "x", "list ", "run", "run ", "run  sort", "late", "add", "add 1 2", "add 1 2 3 4", "sessions 1", "windows 5 5", " list", "List", "list\n", "run x", "run sort |", "late  5"}[r.IntN(19)]
	default:
		words = []string{"add", someWord(r, 0, oneOf(r, 60, impl.MaxTime)), someWord(r, 0, oneOf(r, 2, impl.MaxKey)), someWord(r, 0, impl.MaxValue)}
	}
	return strings.Join(words, " ")
}

// someLines returns up to most lines, often exactly so many.
func someLines(r *rand.Rand, most int) []string {
	var lines []string
	for range oneOf(r, 0, between(r, 0, most), most, most) {
		lines = append(lines, someLine(r))
	}
	return lines
}

// number is what a number looks like.
var number = regexp.MustCompile(`^(0|[1-9][0-9]{0,3})$`)

// eventsSlowly returns the text of events.
func eventsSlowly(list []impl.Event) string {
	s := ""
	for _, e := range list {
		s += fmt.Sprintf("%d:%d=%d;", e.Time, e.Key, e.Value)
	}
	return s
}

// answerSlowly returns the output for a line, and the events behind it.
func answerSlowly(list []impl.Event, line string) (string, []impl.Event) {
	if text, ok := strings.CutPrefix(line, "run "); ok && text != "" {
		program, ok := parseSlowly(text)
		if !ok {
			return "form", list
		}
		return eventsSlowly(programSlowly(program, list)), list
	}
	words := strings.Split(line, " ")
	n := make([]int, len(words))
	for i, word := range words {
		n[i] = -1
		if number.MatchString(word) {
			n[i], _ = strconv.Atoi(word)
		}
	}
	switch fmt.Sprint(words[0], " ", len(words)) {
	case "add 4":
		if e := ev(n[1], n[2], n[3]); impl.ValidEvent(e) {
			return "ok", append(slices.Clone(list), e)
		}
		return "no", list
	case "list 1":
		return eventsSlowly(list), list
	case "sessions 3":
		return sessionsAnswer(list, n[1], n[2]), list
	case "windows 4":
		return windowsAnswer(list, n[1], n[2], n[3]), list
	case "late 2":
		return lateAnswer(list, n[1]), list
	}
	return "what", list
}

// sessionsAnswer returns the output for a line about sessions.
func sessionsAnswer(list []impl.Event, key int, gap int) string {
	if key < 0 || key > 15 || gap < 1 || gap > 999 {
		return "no"
	}
	var ofKey []impl.Event
	for _, e := range list {
		if e.Key == key {
			ofKey = append(ofKey, e)
		}
	}
	s := ""
	for _, x := range sessionsSlowly(ofKey, gap) {
		s += fmt.Sprintf("%d-%d=%d;", x.Start, x.End, x.Sum)
	}
	return s
}

// windowsAnswer returns the output for a line about windows.
func windowsAnswer(list []impl.Event, size int, slide int, bound int) string {
	if size < 1 || size > 999 || slide < 1 || slide > size || size > 10*slide || bound < 0 || bound > 999 {
		return "no"
	}
	cells, _ := runSlowly(plan(size, slide, 0, 0), list, bound)
	s := ""
	for _, c := range cells {
		s += fmt.Sprintf("%d@%d=%d;", c.Key, c.Window.End, c.Acc.Sum)
	}
	return s
}

// lateAnswer returns the output for a line about late events.
func lateAnswer(list []impl.Event, bound int) string {
	if bound < 0 || bound > 999 {
		return "no"
	}
	s, highest := "", -1
	for i, e := range list {
		if e.Time <= highest-bound-1 {
			s += fmt.Sprintf("%d;", i)
		}
		highest = max(highest, e.Time)
	}
	return s
}

// answersSlowly returns the output for each line.
func answersSlowly(lines []string) []string {
	var list []impl.Event
	answers := make([]string, len(lines))
	for i, line := range lines {
		answers[i], list = answerSlowly(list, line)
	}
	return answers
}

// outputOf returns the output of answers.
func outputOf(answers []string) string {
	s := ""
	for _, x := range answers {
		s += x + "\n"
	}
	return s
}

// answersOf fails the test if the output has not one line for each of as many lines as there may be, and returns them.
func answersOf(t *testing.T, lines []string) []string {
	t.Helper()
	out := impl.RunSession(lines)
	answers := strings.Split(out, "\n")
	expectIs(t, "the number of lines", len(answers)-1, len(lines))
	expectIs(t, "what is behind the last line", answers[len(lines)], "")
	return answers[:len(lines)]
}

// expectSession fails the test if a session is not as expected. Each line is followed by its output.
func expectSession(t *testing.T, both ...string) {
	t.Helper()
	var lines, want []string
	for i := 0; i < len(both); i += 2 {
		lines, want = append(lines, both[i]), append(want, both[i+1])
	}
	expect(t, "the output of "+strings.Join(lines, "; "), answersOf(t, lines), want)
	expect(t, "the model's output", answersSlowly(lines), want)
}

func TestRunSession(t *testing.T) {
	r := source(220)
	seen := map[string]int{}
	for range rounds * 5 {
		lines := someLines(r, impl.MaxLines)
		want := answersSlowly(lines)
		expectIs(t, "RunSession", impl.RunSession(lines), outputOf(want))
		for i, answer := range want {
			name, _, _ := strings.Cut(lines[i], " ")
			if answer != "ok" && answer != "no" && answer != "form" && answer != "what" {
				answer = fmt.Sprint("empty: ", answer == "")
			}
			seen[name+" "+answer]++
		}
	}
	for _, what := range []string{"add ok", "add no", "add what", "list empty: true", "list empty: false", "list what", "run empty: true", "run empty: false", "run form", "run what", "sessions empty: true", "sessions empty: false", "sessions no", "sessions what", "windows empty: true", "windows empty: false", "windows no", "windows what", "late empty: true", "late empty: false", "late no", "late what", "x what", " what"} {
		expectTrue(t, "some lines are as follows: "+what, seen[what] > 20)
	}
}

func TestP146SessionsRunLineByLine(t *testing.T) {
	r := source(221)
	for range rounds {
		lines := someLines(r, impl.MaxLines)
		all := impl.RunSession(lines)
		before := ""
		for n := range len(lines) + 1 {
			out := impl.RunSession(lines[:n])
			expectTrue(t, "the output for the first lines is the beginning", strings.HasPrefix(all, out) && strings.HasPrefix(out, before))
			expectIs(t, "the number of lines", strings.Count(out, "\n"), n)
			before = out
		}
	}
}

func TestP147QuestionsChangeNothing(t *testing.T) {
	r := source(222)
	for range rounds * 2 {
		lines := someLines(r, impl.MaxLines/3)
		var more []string
		for _, line := range lines {
			more = append(more, line, "list", fmt.Sprint("late ", between(r, 0, 20)))
		}
		answers := answersOf(t, more)
		var own []string
		for i := 0; i < len(answers); i += 3 {
			own = append(own, answers[i])
		}
		expect(t, "the output of the lines themselves", own, answersOf(t, lines))
	}
}

func TestNoCommandButAddChangesTheEvents(t *testing.T) {
	r := source(223)
	for range rounds {
		lines := someLines(r, impl.MaxLines-1)
		added := slices.DeleteFunc(slices.Clone(lines), func(line string) bool { return !strings.HasPrefix(line, "add ") })
		all, few := answersOf(t, append(slices.Clone(lines), "list")), answersOf(t, append(added, "list"))
		expectIs(t, "list without other commands", few[len(few)-1], all[len(all)-1])
		expectIs(t, "the number of events", strings.Count(all[len(all)-1], ";"), strings.Count(outputOf(all), "ok\n"))
	}
}

func TestP148ProgramsWorkOnTheList(t *testing.T) {
	r := source(224)
	for range rounds {
		lines := someLines(r, impl.MaxLines-4)
		answers := answersOf(t, append(slices.Clone(lines), "list", "run skip 0", "run sort", "run sort | sort"))[len(lines):]
		expectIs(t, "run skip 0", answers[1], answers[0])
		expectIs(t, "run sort | sort", answers[3], answers[2])
		list := eventsOfText(t, answers[0])
		expectIs(t, "run sort", answers[2], eventsSlowly(ordered(list)))
		program := someProgram(r, impl.MaxOps)
		line := "run " + impl.FormatProgram(program)
		expectIs(t, line, answersOf(t, append(slices.Clone(lines), line))[len(lines)], eventsSlowly(impl.RunProgram(program, list)))
	}
}

// eventsOfText returns the events whose text is given.
func eventsOfText(t *testing.T, text string) []impl.Event {
	t.Helper()
	var list []impl.Event
	for _, part := range strings.SplitAfter(text, ";") {
		if part == "" {
			continue
		}
		var e impl.Event
		if _, err := fmt.Sscanf(part, "%d:%d=%d;", &e.Time, &e.Key, &e.Value); err != nil {
			t.Fatalf("%q is not the text of an event: %v", part, err)
		}
		list = append(list, e)
	}
	return list
}

func TestLinesAtLimits(t *testing.T) {
	expectSession(t, "list", "", "run sort", "", "run tumble 5", "", "sessions 0 1", "", "windows 1 1 0", "", "late 0", "")
	expectSession(t, "add 0 0 0", "ok", "add 999 15 99", "ok", "add 1000 15 99", "no", "add 999 16 99", "no", "add 999 15 100", "no", "list", "0:0=0;999:15=99;")
	expectSession(t, "add 7 3 5", "ok", "add 7 3 5", "ok", "list", "7:3=5;7:3=5;", "sessions 3 1", "7-8=10;", "late 0", "", "late 1", "", "run tumble 7", "7:3=10;")
	expectSession(t, "add 5 0 1", "ok", "add 9 15 2", "ok", "add 8 0 4", "ok", "sessions 0 3", "5-8=1;8-11=4;", "sessions 0 4", "5-12=5;", "sessions 15 999", "9-1008=2;", "sessions 1 999", "",
		"sessions 16 5", "no", "sessions 0 0", "no", "sessions 0 1000", "no", "sessions -1 5", "no", "sessions 0 -1", "no")
	expectSession(t, "add 3 1 4", "ok", "add 12 1 1", "ok", "add 5 1 2", "ok", "windows 10 10 0", "1@10=4;1@20=1;", "windows 10 10 999", "1@10=6;1@20=1;", "windows 10 5 999", "1@5=4;1@10=6;1@15=3;1@20=1;", "windows 10 5 0", "1@5=4;1@10=4;1@15=3;1@20=1;",
		"windows 999 999 0", "1@999=7;", "windows 10 1 999", "1@4=4;1@5=4;1@6=6;1@7=6;1@8=6;1@9=6;1@10=6;1@11=6;1@12=6;1@13=7;1@14=3;1@15=3;1@16=1;1@17=1;1@18=1;1@19=1;1@20=1;1@21=1;1@22=1;",
		"windows 11 1 0", "no", "windows 10 11 0", "no", "windows 10 0 0", "no", "windows 0 0 0", "no", "windows 1000 1000 0", "no", "windows 1000 500 0", "no", "windows 10 5 1000", "no", "windows 10 5 -1", "no", "windows 5 10 0", "no")
	expectSession(t, "add 9 1 1", "ok", "add 4 1 1", "ok", "add 3 1 1", "ok", "add 9 1 1", "ok", "late 0", "1;2;", "late 1", "1;2;", "late 4", "1;2;", "late 5", "2;", "late 6", "", "late 999", "", "late 1000", "no", "late -1", "no")
	expectSession(t, "add 9 7 1", "ok", "add 4 2 98", "ok", "run filter 1 1", "9:7=1;", "run filter 2 97", "", "run add 5", "9:7=6;4:2=99;", "run keys 2", "9:1=1;4:0=98;", "run skip 1", "4:2=98;", "run skip 2", "", "run sort | keys 1 | tumble 10", "0:0=99;", "list", "9:7=1;4:2=98;")
}

func TestLinesThatAreAlmostRight(t *testing.T) {
	for _, line := range []string{
		"", " ", "  ", "x", "what", "ok", "ADD 1 2 3", "Add 1 2 3", "adds 1 2 3", "ad 1 2 3", "add1 2 3", " add 1 2 3", "\tadd 1 2 3", "add\t1 2 3", "add", "add ", "add 1", "add 1 2", "add 1 2 3 ", "add 1 2 3 4", "add  1 2 3", "add 1:2=3",
		"list ", " list", "list list", "list 5", "lists", "List", "list\n", "list\x00", "\xfflist", "run", "run ", " run sort", "runs sort", "run\tsort", "Run sort", "sort",
		"sessions", "sessions ", "sessions 1", "sessions 1 5 ", "sessions 1 5 5", "sessions  1 5", "session 1 5", "windows", "windows ", "windows 5 5", "windows 5 5 5 ", "windows 5 5 5 5", "windows  5 5 5", "window 5 5 5", "late", "late 5 ", "late 5 5", "late  5", "lates 5", " late 5",
		"filter 3 9", "1 2 3", "add|1|2|3", strings.Repeat(" ", 500), strings.Repeat("x", 500), "add" + strings.Repeat(" 1", 500),
	} {
		expectSession(t, "add 5 5 5", "ok", line, "what", "list", "5:5=5;")
	}
	for _, line := range []string{"run  ", "run  sort", "run sort ", "run sort|sort", "run sort | ", "run |", "run x", "run add", "run add 05", "run add 100", "run filter 9 3", "run run sort", "run list", "run sort\n", "run sort | sort | sort | sort | sort | sort | sort"} {
		expectSession(t, "add 5 5 5", "ok", line, "form", "list", "5:5=5;")
	}
}

func TestWordsThatAreNoNumbers(t *testing.T) {
	for _, word := range []string{"", "x", "00", "05", "005", "+5", "-5", "-0", "+0", "-1", "5x", "x5", "0x5", "5.0", "5.", "1e1", "1_0", "٥", "5\t", "\t5", "5\n", "5,", "5;", "\xff", "5\x00", "10000", "99999", "0000", "00005", "9223372036854775807", "9223372036854775808", "-9223372036854775809", strings.Repeat("9", 500)} {
		for _, form := range []string{"add # 5 5", "add 5 # 5", "add 5 5 #", "add # # #", "sessions # 5", "sessions 5 #", "windows # 5 5", "windows 5 # 5", "windows 5 5 #", "late #"} {
			expectSession(t, "add 5 5 5", "ok", strings.ReplaceAll(form, "#", word), "no", "list", "5:5=5;")
		}
	}
	expectSession(t, "add 5  5", "no", "add   ", "no", "sessions  ", "no", "windows   ", "no", "late ", "no", "list", "")
	for _, word := range []string{"0", "5", "9", "10"} {
		expectSession(t, "add "+word+" 0 "+word, "ok", "list", word+":0="+word+";", "late "+word, "")
	}
	expectSession(t, "late 1000", "no", "late 9999", "no", "add 9999 0 0", "no", "late 999", "")
}

func TestNearLines(t *testing.T) {
	for _, line := range []string{"add 10 2 3", "list", "run add 5", "run sort | skip 1", "sessions 2 15", "windows 10 5 1", "late 2"} {
		for _, near := range nearTexts(line) {
			lines := []string{"add 12 2 5", "add 5 1 7", near, "list"}
			expect(t, "the output of "+strconv.Quote(near), answersOf(t, lines), answersSlowly(lines))
		}
	}
}

func TestTooManyCells(t *testing.T) {
	lines := []string{"windows 100 10 999"}
	for i := range 10 {
		lines = append(lines, fmt.Sprint("add ", 500+i, " ", i, " 1"))
	}
	answers := answersOf(t, append(lines, lines[0], "add 500 10 1", lines[0], "windows 100 20 999", "list"))
	expectIs(t, "windows without events", answers[0], "")
	expectIs(t, "the number of cells", strings.Count(answers[11], ";"), impl.MaxCells)
	expectIs(t, "an event that leads to too many cells", answers[12], "ok")
	expectIs(t, "windows with too many cells", answers[13], "")
	expectIs(t, "the number of cells of fewer windows", strings.Count(answers[14], ";"), 55)
	expectIs(t, "the number of events", strings.Count(answers[15], ";"), 11)
}

func TestNumberOfLines(t *testing.T) {
	expectIs(t, "MaxLines", impl.MaxLines, 30)
	expectIs(t, "the output without lines", impl.RunSession(nil), "")
	expectIs(t, "the output of an empty line", impl.RunSession([]string{""}), "what\n")
	var lines []string
	text := ""
	for i := range 100 {
		lines = append(lines, fmt.Sprint("add ", i, " 1 2"))
		want := strings.Repeat("ok\n", min(i+1, impl.MaxLines))
		expectIs(t, "the output of some lines", impl.RunSession(lines), want)
		expectIs(t, "the output of some empty lines", impl.RunSession(make([]string, i+1)), strings.Repeat("what\n", min(i+1, impl.MaxLines)))
		if i < impl.MaxLines-1 {
			text += fmt.Sprint(i, ":1=2;")
			expectIs(t, "the list behind some lines", impl.RunSession(append(slices.Clone(lines), "list")), want+text+"\n")
		} else {
			expectIs(t, "a line too many", impl.RunSession(append(slices.Clone(lines), "list")), want)
		}
	}
}

func TestSessionsOfCommandsKeepArguments(t *testing.T) {
	r := source(225)
	for range rounds {
		lines := guarded(someLines(r, impl.MaxLines), "add 7 7 7")
		first := impl.RunSession(lines.list)
		lines.check(t, "RunSession")
		impl.RunSession([]string{"add 1 1 1", "add 2 2 2"})
		expectIs(t, "RunSession again", impl.RunSession(lines.list), first)
	}
}
