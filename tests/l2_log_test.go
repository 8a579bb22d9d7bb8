package tests

import (
	"math"
	"math/rand/v2"
	"slices"
	"testing"

	"loop.example/eventstreams/impl"
)

// logOf returns a log with partitions.
func logOf(parts ...[]impl.Event) impl.Log {
	return impl.Log{Parts: parts}
}

// someLog returns a valid log; the events may be in any partition.
func someLog(r *rand.Rand) impl.Log {
	parts := make([][]impl.Event, between(r, 1, impl.MaxParts))
	most := oneOf(r, 3, 8, impl.MaxEvents)
	for i := range parts {
		parts[i] = someEvents(r, most)
	}
	return logOf(parts...)
}

// someOffsets returns valid offsets for a log.
func someOffsets(r *rand.Rand, l impl.Log) []int {
	offsets := make([]int, len(l.Parts))
	for i, part := range l.Parts {
		offsets[i] = oneOf(r, 0, len(part), between(r, 0, len(part)))
	}
	return offsets
}

// badLogs returns logs that are invalid, with offsets that would fit them.
func badLogs() []impl.Log {
	logs := []impl.Log{{}, logOf(make([][]impl.Event, impl.MaxParts+1)...)}
	for _, list := range badLists() {
		logs = append(logs, logOf(list), logOf(list, nil), logOf(nil, nil, nil, list))
	}
	return logs
}

// expectLog fails the test if a log is not as expected.
func expectLog(t *testing.T, what string, got impl.Log, want impl.Log) {
	t.Helper()
	if !slices.EqualFunc(got.Parts, want.Parts, slices.Equal[[]impl.Event]) {
		t.Fatalf("%s = %v, not %v", what, got, want)
	}
}

// sumOf returns the sum of numbers.
func sumOf(list []int) int {
	sum := 0
	for _, x := range list {
		sum += x
	}
	return sum
}

func TestP9NewLogsAreEmpty(t *testing.T) {
	expectIs(t, "MaxParts", impl.MaxParts, 4)
	for n := 1; n <= impl.MaxParts; n++ {
		l := impl.LogNew(n)
		expectLog(t, "LogNew", l, logOf(make([][]impl.Event, n)...))
		expectIs(t, "LagOf of a new log", impl.LagOf(l, make([]int, n)), 0)
	}
	for _, n := range append(extremes, 0, -1, impl.MaxParts+1) {
		expectLog(t, "LogNew of an invalid number", impl.LogNew(n), impl.Log{})
	}
}

func TestP10EveryKeyHasAPartition(t *testing.T) {
	for key := -2; key <= impl.MaxKey+2; key++ {
		for parts := -2; parts <= impl.MaxParts+2; parts++ {
			want := -1
			if key >= 0 && key <= impl.MaxKey && parts >= 1 && parts <= impl.MaxParts {
				want = (key*7 + 3) % parts
			}
			expectIs(t, "PartOf", impl.PartOf(key, parts), want)
			expectTrue(t, "with one partition it is 0", parts != 1 || want == -1 || impl.PartOf(key, parts) == 0)
		}
	}
	list := []int{impl.PartOf(0, 4), impl.PartOf(1, 4), impl.PartOf(2, 4), impl.PartOf(15, 4), impl.PartOf(5, 3), impl.PartOf(6, 3)}
	expect(t, "PartOf of some keys", list, []int{3, 2, 1, 0, 2, 0})
	for _, x := range extremes {
		expectIs(t, "PartOf of an extreme key", impl.PartOf(x, 2), -1)
		expectIs(t, "PartOf of an extreme number", impl.PartOf(2, x), -1)
	}
}

func TestP11AppendedEventsAreLast(t *testing.T) {
	r := source(20)
	for range rounds {
		l, e := someLog(r), events(r, 1)[0]
		part := (7*e.Key + 3) % len(l.Parts)
		want := logOf(slices.Clone(l.Parts)...)
		room := len(l.Parts[part]) < impl.MaxEvents
		if room {
			want.Parts[part] = joined(l.Parts[part], []impl.Event{e})
		}
		got, ok := impl.AppendLog(l, e)
		expectIs(t, "whether AppendLog succeeds", ok, room)
		expectLog(t, "AppendLog", got, want)
	}
}

func TestAppendLogAtLimits(t *testing.T) {
	full, almost := events(source(21), impl.MaxEvents), events(source(22), impl.MaxEvents-1)
	// key 0 is in partition 1 of two, and key 1 in partition 0
	l := logOf(almost, full)
	got, ok := impl.AppendLog(l, ev(1, 0, 1))
	expectTrue(t, "a full partition takes no event", !ok)
	expectLog(t, "AppendLog to a full partition", got, l)
	got, ok = impl.AppendLog(l, ev(1, 1, 1))
	expectTrue(t, "the last place of a partition can be used", ok)
	expectLog(t, "AppendLog to an almost full partition", got, logOf(joined(almost, []impl.Event{ev(1, 1, 1)}), full))
	for _, e := range edgeEvents() {
		got, ok = impl.AppendLog(impl.LogNew(1), e)
		expectTrue(t, "an event at the limits can be appended", ok)
		expectLog(t, "AppendLog of an event at the limits", got, logOf([]impl.Event{e}))
	}
}

func TestAppendLogOfInvalidArguments(t *testing.T) {
	for _, l := range badLogs() {
		got, ok := impl.AppendLog(l, ev(1, 1, 1))
		expectTrue(t, "an invalid log takes no event", !ok)
		expectLog(t, "AppendLog to an invalid log", got, impl.Log{})
	}
	full := logOf(make([]impl.Event, impl.MaxEvents))
	for _, e := range badEvents() {
		for _, l := range []impl.Log{impl.LogNew(2), full} {
			got, ok := impl.AppendLog(l, e)
			expectTrue(t, "an invalid event is not appended", !ok)
			expectLog(t, "AppendLog of an invalid event", got, impl.Log{})
		}
	}
}

// readSlowly returns what ReadLog should: each event of a round in the order of the partitions.
func readSlowly(l impl.Log, offsets []int, many int) ([]impl.Event, []int) {
	next := slices.Clone(offsets)
	var list []impl.Event
	for range impl.MaxEvents {
		for i, part := range l.Parts {
			if len(list) < many && next[i] < len(part) {
				list = append(list, part[next[i]])
				next[i]++
			}
		}
	}
	return list, next
}

func TestP12NothingIsReadTwice(t *testing.T) {
	r := source(23)
	for range rounds {
		l := someLog(r)
		offsets := someOffsets(r, l)
		many := oneOf(r, 0, 1, between(r, 0, impl.MaxEvents), impl.MaxEvents)
		lag := impl.LagOf(l, offsets)
		list, next, ok := impl.ReadLog(l, offsets, many)
		expectTrue(t, "valid arguments can be read", ok)
		expectIs(t, "the number of events that are read", len(list), min(many, lag))
		expectIs(t, "LagOf after ReadLog", impl.LagOf(l, next), lag-len(list))
		wantList, wantNext := readSlowly(l, offsets, many)
		expect(t, "the events of ReadLog", list, wantList)
		expect(t, "the offsets of ReadLog", next, wantNext)
	}
}

func TestP13PartitionsAreReadInOrder(t *testing.T) {
	r := source(24)
	for range rounds {
		l := someLog(r)
		for i, part := range l.Parts {
			for k := range part { // the key tells the partition
				part[k].Key = i
			}
		}
		offsets := someOffsets(r, l)
		list, next, _ := impl.ReadLog(l, offsets, between(r, 0, impl.MaxEvents))
		for i, part := range l.Parts {
			of := slices.DeleteFunc(slices.Clone(list), func(e impl.Event) bool { return e.Key != i })
			expect(t, "the events of a partition", of, part[offsets[i]:next[i]])
		}
	}
}

func TestReadLogInRounds(t *testing.T) {
	l := logOf([]impl.Event{ev(1, 0, 0), ev(2, 0, 0), ev(3, 0, 0)}, nil, []impl.Event{ev(4, 0, 0)}, []impl.Event{ev(5, 0, 0), ev(6, 0, 0)})
	list, next, ok := impl.ReadLog(l, []int{0, 0, 0, 0}, 4)
	expectTrue(t, "the log can be read", ok)
	expect(t, "two rounds", list, []impl.Event{ev(1, 0, 0), ev(4, 0, 0), ev(5, 0, 0), ev(2, 0, 0)})
	expect(t, "offsets after two rounds", next, []int{2, 0, 1, 1})
	list, next, _ = impl.ReadLog(l, next, impl.MaxEvents)
	expect(t, "each call begins with partition 0", list, []impl.Event{ev(3, 0, 0), ev(6, 0, 0)})
	list, next, ok = impl.ReadLog(l, next, impl.MaxEvents)
	expectTrue(t, "a log without new events can be read", ok && len(list) == 0)
	expect(t, "offsets at the end", next, []int{3, 0, 1, 2})
	list, next, ok = impl.ReadLog(l, []int{1, 0, 0, 1}, 0)
	expectTrue(t, "no event can be read", ok && len(list) == 0)
	expect(t, "offsets after no event", next, []int{1, 0, 0, 1})
}

func TestReadLogOfMaxEvents(t *testing.T) {
	full := events(source(25), impl.MaxEvents)
	l := logOf(full, full, full, full)
	expectIs(t, "LagOf of a full log", impl.LagOf(l, []int{0, 0, 0, 0}), 4*impl.MaxEvents)
	list, next, ok := impl.ReadLog(l, []int{0, 0, 0, 0}, impl.MaxEvents)
	expectTrue(t, "MaxEvents events can be read", ok && len(list) == impl.MaxEvents)
	expect(t, "offsets after MaxEvents events", next, []int{10, 10, 10, 10})
	list, next, ok = impl.ReadLog(l, []int{40, 40, 40, 0}, impl.MaxEvents)
	expectTrue(t, "a whole partition can be read", ok)
	expect(t, "a whole partition", list, full)
	expect(t, "offsets at the end of all", next, []int{40, 40, 40, 40})
}

func TestP14OffsetsCount(t *testing.T) {
	r := source(26)
	for range rounds {
		l := someLog(r)
		offsets := someOffsets(r, l)
		all := impl.LagOf(l, make([]int, len(offsets)))
		expectIs(t, "LagOf from the beginning", all, impl.LagOf(l, offsets)+sumOf(offsets))
		n := 0
		for _, part := range l.Parts {
			n += len(part)
		}
		expectIs(t, "LagOf from the beginning is the number of events", all, n)
	}
}

// expectUnreadable fails the test if offsets or a number of events can be read.
func expectUnreadable(t *testing.T, l impl.Log, offsets []int, many int) {
	t.Helper()
	list, next, ok := impl.ReadLog(l, offsets, many)
	if list != nil || next != nil || ok {
		t.Fatalf("ReadLog(%v, %v, %d) = %v, %v, %v", l, offsets, many, list, next, ok)
	}
}

func TestReadLogOfInvalidArguments(t *testing.T) {
	l := logOf([]impl.Event{ev(1, 1, 1), ev(2, 2, 2)}, []impl.Event{ev(3, 3, 3)})
	bad := [][]int{nil, {0}, {0, 0, 0}, {3, 0}, {0, 2}, {-1, 0}, {0, -1}}
	for _, x := range extremes {
		bad = append(bad, []int{x, 0}, []int{0, x})
		expectUnreadable(t, l, []int{0, 0}, x)
	}
	for _, offsets := range bad {
		expectUnreadable(t, l, offsets, 1)
		expectIs(t, "LagOf of invalid offsets", impl.LagOf(l, offsets), -1)
	}
	expectUnreadable(t, l, []int{0, 0}, -1)
	expectUnreadable(t, l, []int{0, 0}, impl.MaxEvents+1)
	for _, l := range badLogs() {
		offsets := make([]int, len(l.Parts))
		expectUnreadable(t, l, offsets, 1)
		expectIs(t, "LagOf of an invalid log", impl.LagOf(l, offsets), -1)
	}
}

// guardedLog returns a guard for each partition of a log, and the log of their lists.
func guardedLog(l impl.Log) ([]guard[impl.Event], impl.Log) {
	guards := make([]guard[impl.Event], len(l.Parts))
	same := make([][]impl.Event, len(l.Parts), len(l.Parts)+2)
	for i, part := range l.Parts {
		guards[i] = guarded(part, ev(77, 7, 77))
		same[i] = guards[i].list
	}
	return guards, impl.Log{Parts: same}
}

func TestLogsKeepArguments(t *testing.T) {
	r := source(27)
	for range rounds {
		l := someLog(r)
		guards, same := guardedLog(l)
		offsets := guarded(someOffsets(r, l), 3)
		list, next, _ := impl.ReadLog(same, offsets.list, between(r, 0, impl.MaxEvents))
		spoil(list, ev(-5, -5, -5))
		spoil(next, -5)
		impl.LagOf(same, offsets.list)
		grown, _ := impl.AppendLog(same, events(r, 1)[0])
		for i := range grown.Parts {
			spoil(grown.Parts[i], ev(-5, -5, -5))
		}
		spoil(grown.Parts, []impl.Event{ev(6, 6, 6)})
		offsets.check(t, "ReadLog or LagOf")
		for _, g := range guards {
			g.check(t, "ReadLog, LagOf or AppendLog")
		}
		expectLog(t, "a log that was an argument", same, l)
		for _, spare := range same.Parts[:cap(same.Parts)][len(same.Parts):] {
			expectTrue(t, "the spare partitions are unchanged", spare == nil)
		}
	}
}

func TestFullLogIsCopied(t *testing.T) {
	full := make([]impl.Event, impl.MaxEvents)
	l := logOf(full)
	got, ok := impl.AppendLog(l, ev(1, 1, 1))
	expectTrue(t, "the log is full", !ok)
	spoil(got.Parts[0], ev(5, 5, 5))
	got.Parts[0] = nil
	expectLog(t, "a full log that was an argument", l, logOf(make([]impl.Event, impl.MaxEvents)))
}

func TestPartitionsShareNoMemory(t *testing.T) {
	r := source(28)
	for range rounds {
		l := someLog(r)
		grown, _ := impl.AppendLog(l, events(r, 1)[0])
		for i := range grown.Parts {
			others := make([][]impl.Event, len(grown.Parts))
			for k, part := range grown.Parts {
				others[k] = slices.Clone(part)
			}
			spoil(grown.Parts[i], ev(i, i, i))
			for k, part := range grown.Parts {
				expectTrue(t, "writing to a partition changes no other one", k == i || slices.Equal(part, others[k]))
			}
		}
	}
	for n := 1; n <= impl.MaxParts; n++ {
		l := impl.LogNew(n)
		for i := range l.Parts {
			l.Parts[i] = append(l.Parts[i], ev(i, 0, 0))
		}
		for i := range l.Parts {
			expect(t, "a partition of a new log", l.Parts[i], []impl.Event{ev(i, 0, 0)})
		}
	}
}

func TestLogsFromTheBeginning(t *testing.T) {
	l, ok := impl.LogNew(3), true
	for key := range impl.MaxKey + 1 {
		l, ok = impl.AppendLog(l, ev(key, key, key))
		expectTrue(t, "the event can be appended", ok)
	}
	var lens []int
	for i, part := range l.Parts {
		lens = append(lens, len(part))
		for _, e := range part {
			expectIs(t, "the partition of a key", impl.PartOf(e.Key, 3), i)
		}
	}
	expect(t, "the numbers of events", lens, []int{6, 5, 5})
	offsets, read := []int{0, 0, 0}, 0
	for impl.LagOf(l, offsets) > 0 {
		list, next, _ := impl.ReadLog(l, offsets, 5)
		offsets, read = next, read+len(list)
	}
	expectIs(t, "the number of all events that were read", read, impl.MaxKey+1)
	expectIs(t, "LagOf behind the end", impl.LagOf(l, []int{math.MaxInt, 5, 5}), -1)
}
