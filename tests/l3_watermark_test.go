package tests

import (
	"math"
	"slices"
	"testing"

	"loop.example/eventstreams/impl"
)

// badMarks returns generators that are invalid.
func badMarks() []impl.Mark {
	list := []impl.Mark{{Bound: -1, Highest: 5}, {Bound: impl.MaxTime + 1, Highest: 5}, {Bound: 5, Highest: -2}, {Bound: 5, Highest: impl.MaxTime + 1}}
	for _, x := range extremes {
		list = append(list, impl.Mark{Bound: x, Highest: 5}, impl.Mark{Bound: 5, Highest: x})
	}
	return list
}

// edgeMarks returns valid generators, some of them at the limits.
func edgeMarks() []impl.Mark {
	var list []impl.Mark
	for _, bound := range []int{0, 1, 7, 998, impl.MaxTime} {
		for _, highest := range []int{-1, 0, 1, 7, 8, 998, impl.MaxTime} {
			list = append(list, impl.Mark{Bound: bound, Highest: highest})
		}
	}
	return list
}

func TestP15OrderOfTimesDoesNotMatter(t *testing.T) {
	times := []int{0, 1, 6, 7, 8, 500, 998, impl.MaxTime}
	for _, m := range edgeMarks() {
		for _, a := range times {
			once, ok := impl.SeeTime(m, a)
			expectTrue(t, "a generator can see a time", ok)
			expectIs(t, "SeeTime", once, impl.Mark{Bound: m.Bound, Highest: max(m.Highest, a)})
			twice, _ := impl.SeeTime(once, a)
			expectIs(t, "SeeTime of one time twice", twice, once)
			for _, b := range times {
				ab, _ := impl.SeeTime(once, b)
				other, _ := impl.SeeTime(m, b)
				ba, _ := impl.SeeTime(other, a)
				expectIs(t, "SeeTime of two times", ab, ba)
			}
		}
	}
}

func TestSeeTimeOfInvalidArguments(t *testing.T) {
	for _, m := range badMarks() {
		got, ok := impl.SeeTime(m, 7)
		expectTrue(t, "an invalid generator sees no time", !ok)
		expectIs(t, "SeeTime of an invalid generator", got, impl.Mark{})
	}
	for _, time := range append(extremes, -1, impl.MaxTime+1) {
		got, ok := impl.SeeTime(impl.Mark{Bound: 5, Highest: 5}, time)
		expectTrue(t, "an invalid time is not seen", !ok)
		expectIs(t, "SeeTime of an invalid time", got, impl.Mark{})
	}
}

func TestP16WatermarksFollowTheHighestTime(t *testing.T) {
	for highest := -1; highest <= impl.MaxTime; highest++ {
		before := highest
		for bound := range impl.MaxTime + 1 {
			mark := impl.MarkTime(impl.Mark{Bound: bound, Highest: highest})
			if want := highest - bound - 1; mark != want && (mark != -1 || want > -1) {
				t.Fatalf("MarkTime of %d and %d = %d", bound, highest, mark)
			}
			expectTrue(t, "the watermark is at least -1", mark >= -1)
			expectTrue(t, "the watermark is less than the highest time", highest == -1 || mark < highest)
			expectTrue(t, "a greater bound does not make the watermark greater", mark <= before)
			before = mark
		}
	}
	expectIs(t, "MarkTime of the zero value", impl.MarkTime(impl.Mark{}), -1)
	expectIs(t, "MarkTime at the limits", impl.MarkTime(impl.Mark{Highest: impl.MaxTime}), 998)
	for _, m := range badMarks() {
		expectIs(t, "MarkTime of an invalid generator", impl.MarkTime(m), -2)
	}
}

func TestP17LateEventsStayLate(t *testing.T) {
	for _, time := range []int{0, 1, 500, 998, impl.MaxTime} {
		e := ev(time, 3, 3)
		for mark := -1; mark <= impl.MaxTime; mark++ {
			expectIs(t, "IsLate", impl.IsLate(e, mark), mark >= time)
		}
		expectTrue(t, "no event is late at -1", !impl.IsLate(e, -1))
		for _, mark := range append(extremes, -2, impl.MaxTime+1, 5000) {
			expectTrue(t, "no event is late at an invalid watermark", !impl.IsLate(e, mark))
		}
	}
	for _, e := range badEvents() {
		for _, mark := range []int{-1, 0, 1, 500, impl.MaxTime} {
			expectTrue(t, "no invalid event is late", !impl.IsLate(e, mark))
		}
	}
	for _, e := range edgeEvents() {
		expectTrue(t, "all events are late at MaxTime", impl.IsLate(e, impl.MaxTime))
	}
}

// bounds returns bounds of generators, those at the limits among them.
func bounds() []int {
	return []int{0, 1, 2, 5, 20, 300, 998, impl.MaxTime}
}

func TestP18WatermarksNeverFall(t *testing.T) {
	r := source(30)
	for range rounds {
		list := someEvents(r, impl.MaxEvents)
		for _, bound := range bounds() {
			marks := impl.MarksOf(list, bound)
			expectIs(t, "the number of watermarks", len(marks), len(list))
			expectTrue(t, "watermarks do not decrease", slices.IsSorted(marks))
			highest := -1
			for i, e := range list {
				highest = max(highest, e.Time)
				expectIs(t, "a watermark", marks[i], max(highest-bound-1, -1))
			}
			if len(list) > 0 {
				expectIs(t, "the last watermark", marks[len(marks)-1], impl.MarkTime(impl.Mark{Bound: bound, Highest: highest}))
			}
		}
	}
}

func TestP19WatermarksDoNotLookAhead(t *testing.T) {
	r := source(31)
	for range rounds {
		list := someEvents(r, impl.MaxEvents)
		bound := oneOf(r, bounds()...)
		n := between(r, 0, len(list))
		expect(t, "MarksOf of the first events", impl.MarksOf(list[:n], bound), impl.MarksOf(list, bound)[:n])
	}
}

func TestMarksOfGeneratorSteps(t *testing.T) {
	r := source(32)
	for range rounds {
		list := someEvents(r, impl.MaxEvents)
		bound := oneOf(r, bounds()...)
		m := impl.Mark{Bound: bound, Highest: -1}
		var marks []int
		for _, e := range list {
			m, _ = impl.SeeTime(m, e.Time)
			marks = append(marks, impl.MarkTime(m))
		}
		expect(t, "MarksOf step by step", impl.MarksOf(list, bound), marks)
	}
}

func TestP20SortedEventsAreNeverLate(t *testing.T) {
	r := source(33)
	for range rounds {
		list := someEvents(r, impl.MaxEvents)
		before := impl.LateEvents(list, 0)
		for _, bound := range bounds() {
			expect(t, "LateEvents of sorted events", impl.LateEvents(impl.SortEvents(list), bound), nil)
			late := impl.LateEvents(list, bound)
			for _, i := range late {
				expectTrue(t, "a greater bound makes no more events late", slices.Contains(before, i))
			}
			before = late
		}
		expect(t, "LateEvents with the greatest bound", impl.LateEvents(list, impl.MaxTime), nil)
	}
}

func TestP21LateEventsAreBehindTheWatermark(t *testing.T) {
	r := source(34)
	found := 0
	for range rounds {
		list := someEvents(r, impl.MaxEvents)
		bound := oneOf(r, bounds()...)
		marks := impl.MarksOf(list, bound)
		var want []int
		for i := 1; i < len(list); i++ {
			if impl.IsLate(list[i], marks[i-1]) {
				want = append(want, i)
			}
		}
		found += len(want)
		expect(t, "LateEvents", impl.LateEvents(list, bound), want)
	}
	expectTrue(t, "some events are late", found > rounds)
}

func TestLateEventsAtLimits(t *testing.T) {
	list := []impl.Event{ev(0, 0, 0), ev(999, 1, 1), ev(998, 2, 2), ev(999, 3, 3), ev(0, 4, 4)}
	expect(t, "MarksOf with bound 0", impl.MarksOf(list, 0), []int{-1, 998, 998, 998, 998})
	expect(t, "LateEvents with bound 0", impl.LateEvents(list, 0), []int{2, 4})
	expect(t, "LateEvents with bound 1", impl.LateEvents(list, 1), []int{4})
	expect(t, "MarksOf with bound 998", impl.MarksOf(list, 998), []int{-1, 0, 0, 0, 0})
	expect(t, "LateEvents with bound 998", impl.LateEvents(list, 998), []int{4})
	expect(t, "LateEvents with bound 999", impl.LateEvents(list, 999), nil)
	expect(t, "LateEvents of the time just at the bound", impl.LateEvents([]impl.Event{ev(9, 0, 0), ev(7, 0, 0), ev(6, 0, 0)}, 2), []int{2})
	expect(t, "MarksOf of no events", impl.MarksOf(nil, 5), nil)
	expect(t, "LateEvents of no events", impl.LateEvents(nil, 5), nil)
}

func TestMarksOfInvalidArguments(t *testing.T) {
	list := []impl.Event{ev(999, 1, 1), ev(1, 1, 1)}
	for _, bound := range append(extremes, -1, -2, impl.MaxTime+1) {
		expect(t, "MarksOf with an invalid bound", impl.MarksOf(list, bound), nil)
		expect(t, "LateEvents with an invalid bound", impl.LateEvents(list, bound), nil)
	}
	for _, bad := range badLists() {
		expect(t, "MarksOf of invalid events", impl.MarksOf(bad, 0), nil)
		expect(t, "LateEvents of invalid events", impl.LateEvents(bad, 0), nil)
	}
	late := []impl.Event{ev(999, 1, 1), ev(1, 1, 1), ev(1, 1, math.MaxInt)}
	expect(t, "LateEvents before an invalid event", impl.LateEvents(late, 0), nil)
	expectIs(t, "the number of watermarks of MaxEvents events", len(impl.MarksOf(make([]impl.Event, impl.MaxEvents), 0)), impl.MaxEvents)
}

func TestWatermarksKeepArguments(t *testing.T) {
	r := source(35)
	for range rounds {
		g := guarded(someEvents(r, impl.MaxEvents), ev(77, 7, 77))
		spoil(impl.MarksOf(g.list, 3), -5)
		spoil(impl.LateEvents(g.list, 3), -5)
		g.check(t, "MarksOf or LateEvents")
	}
}
