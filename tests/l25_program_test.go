package tests

import (
	"math/rand/v2"
	"regexp"
	"slices"
	"strconv"
	"strings"
	"testing"

	"loop.example/eventstreams/impl"
)

// op returns an operator.
func op(kind int, a int, b int) impl.Op {
	return impl.Op{Kind: kind, A: a, B: b}
}

// ops returns operators as a program.
func ops(list ...impl.Op) []impl.Op {
	return list
}

// The operators of each kind, with short names.
func filter(low int, high int) impl.Op { return op(impl.OpFilter, low, high) }
func add(more int) impl.Op             { return op(impl.OpAdd, more, 0) }
func keys(many int) impl.Op            { return op(impl.OpKeys, many, 0) }
func tumble(size int) impl.Op          { return op(impl.OpTumble, size, 0) }
func skip(many int) impl.Op            { return op(impl.OpSkip, many, 0) }
func sorting() impl.Op                 { return op(impl.OpSort, 0, 0) }

// someOp returns a valid operator, often with small numbers or with those at the limits.
func someOp(r *rand.Rand) impl.Op {
	switch between(r, impl.OpFilter, impl.OpSort) {
	case impl.OpFilter:
		low := oneOf(r, 0, between(r, 0, 5), between(r, 0, impl.MaxValue))
		return filter(low, oneOf(r, low, between(r, low, impl.MaxValue), impl.MaxValue))
	case impl.OpAdd:
		return add(oneOf(r, 0, between(r, 0, 5), between(r, 0, impl.MaxValue), impl.MaxValue))
	case impl.OpKeys:
		return keys(oneOf(r, 1, 2, 3, between(r, 1, impl.MaxKey+1), impl.MaxKey+1))
	case impl.OpTumble:
		return tumble(oneOf(r, 1, between(r, 1, 20), between(r, 1, impl.MaxTime), impl.MaxTime))
	case impl.OpSkip:
		return skip(oneOf(r, 0, 1, between(r, 0, 5), between(r, 0, impl.MaxEvents), impl.MaxEvents))
	}
	return sorting()
}

// someProgram returns a valid program with up to most operators, often exactly so many.
func someProgram(r *rand.Rand, most int) []impl.Op {
	var list []impl.Op
	for range oneOf(r, 1, between(r, 1, most), most) {
		list = append(list, someOp(r))
	}
	return list
}

// edgeOps returns valid operators with numbers at the limits, and their texts.
func edgeOps() ([]impl.Op, []string) {
	return ops(filter(0, 0), filter(0, 99), filter(99, 99), filter(9, 10), add(0), add(9), add(99), keys(1), keys(16), tumble(1), tumble(999), skip(0), skip(40), sorting()),
		[]string{"filter 0 0", "filter 0 99", "filter 99 99", "filter 9 10", "add 0", "add 9", "add 99", "keys 1", "keys 16", "tumble 1", "tumble 999", "skip 0", "skip 40", "sort"}
}

// badOps returns operators that no program may have, each for one reason.
func badOps() []impl.Op {
	list := ops(op(0, 0, 0), op(7, 0, 0), op(-1, 0, 0), op(0, 1, 1), op(7, 1, 0), op(8, 5, 5))
	list = append(list, filter(-1, 5), filter(-1, -1), filter(0, 100), filter(100, 100), filter(9, 8), filter(99, 98), filter(1, 0), filter(5, -1))
	list = append(list, add(-1), add(100), keys(0), keys(-1), keys(17), tumble(0), tumble(-1), tumble(1000), skip(-1), skip(41), op(impl.OpSort, 1, 0), op(impl.OpSort, -1, 0))
	for kind := impl.OpAdd; kind <= impl.OpSort; kind++ {
		a := 1 - kind/impl.OpSort
		list = append(list, op(kind, a, 1), op(kind, a, -1), op(kind, a, 5), op(kind, a, a+9))
	}
	for _, x := range extremes {
		list = append(list, op(x, 0, 0), filter(x, 5), filter(5, x), filter(x, x))
		for kind := impl.OpAdd; kind <= impl.OpSort; kind++ {
			list = append(list, op(kind, x, 0), op(kind, 1-kind/impl.OpSort, x))
		}
	}
	return list
}

// badPrograms returns programs that are invalid: by one operator, wherever it is, or by their number.
func badPrograms() [][]impl.Op {
	list := [][]impl.Op{nil, {}, slices.Repeat(ops(sorting()), impl.MaxOps+1), slices.Repeat(ops(skip(0)), 500)}
	for _, bad := range badOps() {
		list = append(list, ops(bad), ops(bad, sorting()), ops(sorting(), bad), ops(sorting(), sorting(), bad, sorting(), sorting(), sorting()))
	}
	return list
}

// opText is what the texts of operators look like, if their numbers fit.
var opText = regexp.MustCompile(`^(?:(filter) (0|[1-9][0-9]*) (0|[1-9][0-9]*)|(add|keys|tumble|skip) (0|[1-9][0-9]*)|(sort))$`)

// fits reports whether a text is that of a number in a range.
func fits(text string, low int, high int) bool {
	n, err := strconv.Atoi(text)
	return err == nil && low <= n && n <= high
}

// parseSlowly returns what ParseProgram should.
func parseSlowly(s string) ([]impl.Op, bool) {
	var list []impl.Op
	for _, text := range strings.Split(s, " | ") {
		m := opText.FindStringSubmatch(text)
		if m == nil {
			return nil, false
		}
		a, _ := strconv.Atoi(m[2] + m[5])
		b, _ := strconv.Atoi(m[3])
		ok := false
		switch m[1] + m[4] + m[6] {
		case "filter":
			list, ok = append(list, filter(a, b)), fits(m[2], 0, b) && fits(m[3], a, 99)
		case "add":
			list, ok = append(list, add(a)), fits(m[5], 0, 99)
		case "keys":
			list, ok = append(list, keys(a)), fits(m[5], 1, 16)
		case "tumble":
			list, ok = append(list, tumble(a)), fits(m[5], 1, 999)
		case "skip":
			list, ok = append(list, skip(a)), fits(m[5], 0, 40)
		case "sort":
			list, ok = append(list, sorting()), true
		}
		if !ok {
			return nil, false
		}
	}
	return list, len(list) <= impl.MaxOps
}

// expectParse fails the test if ParseProgram of a text is not as it should, and returns whether it succeeds.
func expectParse(t *testing.T, s string) bool {
	t.Helper()
	got, ok := impl.ParseProgram(s)
	want, fine := parseSlowly(s)
	if !fine {
		want = nil
	}
	if ok != fine || !slices.Equal(got, want) {
		t.Fatalf("ParseProgram(%q) = %v, %v, not %v, %v", s, got, ok, want, fine)
	}
	return ok
}

// nearTexts returns all texts that come from a text by one insertion, removal or replacement of a byte, or by doubling or swapping one.
func nearTexts(s string) []string {
	var list []string
	for i := range len(s) + 1 {
		for _, x := range []byte(" |0159-+.,\t\n\x00axSé") {
			list = append(list, s[:i]+string([]byte{x})+s[i:])
			if i < len(s) {
				list = append(list, s[:i]+string([]byte{x})+s[i+1:])
			}
		}
		if i < len(s) {
			list = append(list, s[:i]+s[i+1:], s[:i]+s[i:i+1]+s[i:], s[:i], s[i:])
		}
		if i+1 < len(s) {
			list = append(list, s[:i]+s[i+1:i+2]+s[i:i+1]+s[i+2:])
		}
	}
	return list
}

// tumbleSlowly returns what OpTumble should make of valid events.
func tumbleSlowly(list []impl.Event, size int) []impl.Event {
	var out []impl.Event
	for start := 0; start <= impl.MaxTime; start += size {
		for key := range impl.MaxKey + 1 {
			sum, found := 0, false
			for _, e := range list {
				if e.Key == key && e.Time >= start && e.Time < start+size {
					sum, found = sum+e.Value, true
				}
			}
			if found {
				out = append(out, ev(start, key, min(sum, 99)))
			}
		}
	}
	return out
}

// programSlowly returns what RunProgram should for valid arguments.
func programSlowly(program []impl.Op, list []impl.Event) []impl.Event {
	for _, x := range program {
		var out []impl.Event
		for i, e := range list {
			switch {
			case x.Kind == impl.OpFilter && (e.Value < x.A || e.Value > x.B), x.Kind == impl.OpSkip && i < x.A:
				continue
			case x.Kind == impl.OpAdd:
				e.Value = min(e.Value+x.A, 99)
			case x.Kind == impl.OpKeys:
				e.Key = e.Key - e.Key/x.A*x.A
			}
			out = append(out, e)
		}
		switch x.Kind {
		case impl.OpTumble:
			out = tumbleSlowly(list, x.A)
		case impl.OpSort:
			out = ordered(list)
		}
		list = out
	}
	return list
}

func TestP140ProgramsAreMadeOfOperators(t *testing.T) {
	r := source(213)
	bad := badOps()
	var good, wrong int
	for range rounds * 5 {
		program := someProgram(r, impl.MaxOps)
		for i := range program {
			if r.IntN(20) == 0 {
				program[i] = bad[r.IntN(len(bad))]
			}
		}
		want := true
		for _, x := range program {
			want = want && impl.ValidProgram(ops(x))
		}
		expectIs(t, "ValidProgram", impl.ValidProgram(program), want)
		good, wrong = good+amount(want), wrong+amount(!want)
	}
	expectTrue(t, "some programs are valid, others are not", good > 100 && wrong > 100)
}

func TestValidProgramAtLimits(t *testing.T) {
	expectIs(t, "MaxOps", impl.MaxOps, 6)
	expect(t, "the kinds", []int{impl.OpFilter, impl.OpAdd, impl.OpKeys, impl.OpTumble, impl.OpSkip, impl.OpSort}, []int{1, 2, 3, 4, 5, 6})
	edge, _ := edgeOps()
	for _, x := range edge {
		for n := 1; n <= impl.MaxOps; n++ {
			expectTrue(t, "a program at the limits is valid", impl.ValidProgram(slices.Repeat(ops(x), n)))
		}
		expectTrue(t, "a program may not have more than MaxOps operators", !impl.ValidProgram(slices.Repeat(ops(x), impl.MaxOps+1)))
	}
}

func TestInvalidPrograms(t *testing.T) {
	lists := [][]impl.Event{nil, {ev(1, 1, 1)}, make([]impl.Event, impl.MaxEvents), badLists()[0], badLists()[5]}
	for _, bad := range badPrograms() {
		expectTrue(t, "an invalid program is not valid", !impl.ValidProgram(bad))
		expectIs(t, "FormatProgram of an invalid program", impl.FormatProgram(bad), "")
		for _, list := range lists {
			expectTrue(t, "RunProgram of an invalid program is nil", impl.RunProgram(bad, list) == nil)
		}
	}
	edge, _ := edgeOps()
	for _, bad := range badLists() {
		for _, x := range edge {
			expectTrue(t, "RunProgram of invalid events is nil", impl.RunProgram(ops(x), bad) == nil && impl.RunProgram(ops(skip(40), x), bad) == nil)
		}
	}
}

func TestP141TextsOfProgramsLoseNothing(t *testing.T) {
	r := source(214)
	for range rounds * 3 {
		program := someProgram(r, impl.MaxOps)
		s := impl.FormatProgram(program)
		got, ok := impl.ParseProgram(s)
		expectTrue(t, "the text of a program can be parsed", ok)
		expect(t, "ParseProgram of FormatProgram", got, program)
		expectTrue(t, "the text looks as it should", expectParse(t, s))
	}
}

func TestFormatProgramAtLimits(t *testing.T) {
	edge, texts := edgeOps()
	for i, x := range edge {
		expectIs(t, "FormatProgram of one operator", impl.FormatProgram(ops(x)), texts[i])
		expectIs(t, "FormatProgram of two operators", impl.FormatProgram(ops(x, sorting())), texts[i]+" | sort")
		expectIs(t, "FormatProgram of MaxOps operators", impl.FormatProgram(slices.Repeat(ops(x), impl.MaxOps)), strings.Repeat(texts[i]+" | ", 5)+texts[i])
	}
}

func TestP142EveryProgramHasOneText(t *testing.T) {
	r := source(215)
	_, texts := edgeOps()
	texts = append(texts, "", " ", "|", " | ", "sort | sort", "filter 3 9 | tumble 10", "add 5 | keys 3 | skip 7", "sort | sort | sort | sort | sort | sort")
	for range 20 {
		texts = append(texts, impl.FormatProgram(someProgram(r, 3)))
	}
	var good, wrong int
	for _, text := range texts {
		for _, s := range append(nearTexts(text), text) {
			ok := expectParse(t, s)
			if ok {
				program, _ := impl.ParseProgram(s)
				expectIs(t, "FormatProgram of ParseProgram", impl.FormatProgram(program), s)
			}
			good, wrong = good+amount(ok), wrong+amount(!ok)
		}
	}
	expectTrue(t, "some texts are those of programs, others are not", good > 500 && wrong > 10000)
}

func TestTextsOfNoProgram(t *testing.T) {
	for _, s := range []string{
		"", " ", "x", "0", "|", " | ", " |", "| ", "sort |", "sort | ", " | sort", "| sort", "sort|sort", "sort |sort", "sort| sort", "sort  | sort", "sort |  sort", "sort | | sort", "sort |  | sort", "sort, sort", "sort\n", "sort\t| sort",
		" sort", "sort ", "Sort", "SORT", "sor", "sorts", "sort 0", "sort 1", "sort sort",
		"filter", "filter ", "filter 3", "filter 3 ", "filter  3 9", "filter 3  9", "filter 3 9 ", "filter 3 9 1", "filter 3 9 0", "filter 9 3", "filter 3 100", "filter 100 100", "filter 03 9", "filter 3 09", "filter -1 5", "filter x 9", "filter 3 x", "filter 0", "filter3 9", "filter 3,9",
		"add", "add ", "add  5", "add 5 ", "add 5 0", "add 5 5", "add 05", "add 00", "add +5", "add -0", "add -5", "add 100", "add 1e1", "add 0x5", "add 1_0", "add 5.0", "add ٥", "add five", "add 9223372036854775808", "add 18446744073709551616", "add5",
		"keys", "keys 0", "keys 17", "keys 16 0", "tumble", "tumble 0", "tumble 1000", "tumble 10000", "tumble 0999", "skip", "skip 41", "skip -1", "skip 0 0", "skips 1",
		"sort | x", "x | sort", "sort | add 100", "add 100 | sort", "sort | sort | sort | sort | sort | sort | sort", strings.Repeat("sort | ", 500) + "sort", strings.Repeat(" ", 500), strings.Repeat(" | ", 500), "sort\x00", "\xff", "\xffsort",
	} {
		list, ok := impl.ParseProgram(s)
		if ok || list != nil {
			t.Fatalf("ParseProgram(%q) = %v, %v", s, list, ok)
		}
		expectTrue(t, "the model agrees", !expectParse(t, s))
	}
}

func TestP143ProgramsRunOperatorByOperator(t *testing.T) {
	r := source(216)
	some := 0
	for range rounds * 5 {
		program, list := someProgram(r, impl.MaxOps), someEvents(r, impl.MaxEvents)
		got := impl.RunProgram(program, list)
		expect(t, "RunProgram", got, programSlowly(program, list))
		for n := 1; n < len(program); n++ {
			expect(t, "RunProgram in two parts", impl.RunProgram(program[n:], impl.RunProgram(program[:n], list)), got)
		}
		some += amount(len(program) > 1 && len(got) > 0)
	}
	expectTrue(t, "some long programs make some events", some > 100)
}

func TestP144OperatorsDoWhatFunctionsDo(t *testing.T) {
	r := source(217)
	for range rounds {
		list := someEvents(r, impl.MaxEvents)
		expect(t, "OpSort", impl.RunProgram(ops(sorting()), list), impl.SortEvents(list))
		expect(t, "OpSkip of 0", impl.RunProgram(ops(skip(0)), list), list)
		low := between(r, 0, impl.MaxValue)
		high := oneOf(r, low, between(r, low, impl.MaxValue), impl.MaxValue)
		expect(t, "OpFilter", impl.RunProgram(ops(filter(low, high)), list), impl.FilterEvents(list, low, high))
		expect(t, "OpFilter of all values", impl.RunProgram(ops(filter(0, impl.MaxValue)), list), list)
		expect(t, "OpAdd of 0", impl.RunProgram(ops(add(0)), list), list)
		expect(t, "OpKeys of all keys", impl.RunProgram(ops(keys(impl.MaxKey+1)), list), list)
		for n := range len(list) + 1 {
			expect(t, "OpSkip", impl.RunProgram(ops(skip(n)), list), list[n:])
		}
	}
}

func TestRunProgramAtLimits(t *testing.T) {
	list := []impl.Event{ev(9, 15, 98), ev(3, 0, 0), ev(9, 7, 99), ev(3, 0, 0), ev(999, 15, 1)}
	for _, c := range []struct {
		program []impl.Op
		want    []impl.Event
	}{
		{ops(add(1)), []impl.Event{ev(9, 15, 99), ev(3, 0, 1), ev(9, 7, 99), ev(3, 0, 1), ev(999, 15, 2)}},
		{ops(add(99)), []impl.Event{ev(9, 15, 99), ev(3, 0, 99), ev(9, 7, 99), ev(3, 0, 99), ev(999, 15, 99)}},
		{ops(keys(1)), []impl.Event{ev(9, 0, 98), ev(3, 0, 0), ev(9, 0, 99), ev(3, 0, 0), ev(999, 0, 1)}},
		{ops(keys(15)), []impl.Event{ev(9, 0, 98), ev(3, 0, 0), ev(9, 7, 99), ev(3, 0, 0), ev(999, 0, 1)}},
		{ops(filter(98, 98)), list[:1]},
		{ops(filter(2, 97)), nil},
		{ops(skip(4)), list[4:]},
		{ops(skip(5)), nil},
		{ops(skip(40)), nil},
		{ops(skip(1), skip(1)), list[2:]},
		{ops(sorting()), []impl.Event{ev(3, 0, 0), ev(3, 0, 0), ev(9, 7, 99), ev(9, 15, 98), ev(999, 15, 1)}},
		{ops(tumble(1)), []impl.Event{ev(3, 0, 0), ev(9, 7, 99), ev(9, 15, 98), ev(999, 15, 1)}},
		{ops(tumble(999)), []impl.Event{ev(0, 0, 0), ev(0, 7, 99), ev(0, 15, 98), ev(999, 15, 1)}},
		{ops(tumble(9)), []impl.Event{ev(0, 0, 0), ev(9, 7, 99), ev(9, 15, 98), ev(999, 15, 1)}},
		{ops(tumble(10)), []impl.Event{ev(0, 0, 0), ev(0, 7, 99), ev(0, 15, 98), ev(990, 15, 1)}},
		{ops(keys(8), tumble(500)), []impl.Event{ev(0, 0, 0), ev(0, 7, 99), ev(500, 7, 1)}},
		{ops(filter(1, 98), skip(1), add(5), keys(2), tumble(100), sorting()), []impl.Event{ev(900, 1, 6)}},
	} {
		expect(t, "RunProgram of "+impl.FormatProgram(c.program), impl.RunProgram(c.program, list), c.want)
		expectTrue(t, "RunProgram of no events makes none", len(impl.RunProgram(c.program, nil)) == 0)
	}
	most := slices.Repeat([]impl.Event{ev(impl.MaxTime, impl.MaxKey, impl.MaxValue)}, impl.MaxEvents)
	expect(t, "OpSkip of all events but one", impl.RunProgram(ops(skip(39)), most), most[:1])
	expect(t, "OpTumble of the greatest values", impl.RunProgram(ops(tumble(7)), most), []impl.Event{ev(994, impl.MaxKey, impl.MaxValue)})
}

func TestP145TumblingAddsUp(t *testing.T) {
	r := source(218)
	var capped, several int
	for range rounds * 3 {
		list := someEvents(r, impl.MaxEvents)
		size := oneOf(r, 1, between(r, 1, 20), between(r, 1, impl.MaxTime), impl.MaxTime)
		got := impl.RunProgram(ops(tumble(size)), list)
		expect(t, "OpTumble", got, tumbleSlowly(list, size))
		rest := len(list)
		for i, e := range got {
			expectTrue(t, "events ascend", i == 0 || ahead(got[i-1], e))
			expectIs(t, "the remainder of a time", e.Time%size, 0)
			w, _ := impl.TumblingOf(e.Time, size, 0)
			ofCell := slices.DeleteFunc(slices.Clone(list), func(x impl.Event) bool { return x.Key != e.Key || !impl.WindowHas(w, x.Time) })
			sum := impl.AccOf(ofCell).Sum
			expectIs(t, "the value of an event", e.Value, min(sum, impl.MaxValue))
			rest -= len(ofCell)
			capped += amount(sum > impl.MaxValue)
			several += amount(len(ofCell) > 1 && sum < impl.MaxValue)
		}
		expectIs(t, "the number of events without a window", rest, 0)
	}
	expectTrue(t, "some sums are too great, others are not", capped > 100 && several > 100)
}

func TestProgramsKeepArguments(t *testing.T) {
	r := source(219)
	edge, _ := edgeOps()
	bad := ev(-5, -5, -5)
	for range rounds / 4 {
		for _, x := range edge {
			program, list := guarded(append(ops(x), someProgram(r, 3)...), op(-7, -7, -7)), guarded(someEvents(r, impl.MaxEvents), ev(-7, -7, -7))
			impl.ValidProgram(program.list)
			parsed, _ := impl.ParseProgram(impl.FormatProgram(program.list))
			spoil(parsed, op(-5, -5, -5))
			spoil(impl.RunProgram(program.list, list.list), bad)
			spoil(impl.RunProgram(program.list[:1], list.list), bad)
			program.check(t, "a function of programs")
			list.check(t, "RunProgram")
		}
	}
}
