package tests

import (
	"math"
	"slices"
	"testing"

	"loop.example/eventstreams/impl"
)

func TestLimitsOfEvents(t *testing.T) {
	got := []int{impl.MaxTime, impl.MaxKey, impl.MaxValue, impl.MaxEvents}
	expect(t, "limits", got, []int{999, 15, 99, 40})
}

func TestValidEvent(t *testing.T) {
	for _, e := range append(edgeEvents(), ev(500, 7, 50), ev(1, 2, 3)) {
		expectTrue(t, "an event at the limits is valid", impl.ValidEvent(e))
	}
	for _, e := range badEvents() {
		if impl.ValidEvent(e) {
			t.Fatalf("%v is valid", e)
		}
	}
}

func TestP1SingleEvents(t *testing.T) {
	for _, e := range edgeEvents() {
		expect(t, "SortEvents of a valid event", impl.SortEvents([]impl.Event{e}), []impl.Event{e})
	}
	for _, e := range badEvents() {
		expect(t, "SortEvents of an invalid event", impl.SortEvents([]impl.Event{e}), nil)
	}
	r := source(1)
	for range rounds {
		e := ev(between(r, -1, 1000), between(r, -1, 16), between(r, -1, 100))
		expectIs(t, "SortEvents of one event yields it", len(impl.SortEvents([]impl.Event{e})) == 1, impl.ValidEvent(e))
	}
}

// anyEvents returns events that need not be valid.
func anyEvents() []impl.Event {
	var list []impl.Event
	numbers := []int{math.MinInt, -1, 0, 1, math.MaxInt}
	for _, time := range numbers {
		for _, key := range numbers {
			for _, value := range numbers {
				list = append(list, ev(time, key, value))
			}
		}
	}
	return list
}

func TestP2OrderIsTotal(t *testing.T) {
	list := anyEvents()
	for i, a := range list {
		for k, b := range list {
			c := impl.CompareEvents(a, b)
			want := 0
			if i < k {
				want = -1
			} else if i > k {
				want = 1
			}
			expectIs(t, "CompareEvents", c, want)
			expectIs(t, "CompareEvents the other way round", impl.CompareEvents(b, a), -c)
			expectIs(t, "CompareEvents is 0", c == 0, a == b)
		}
	}
}

func TestP3TimeComesFirst(t *testing.T) {
	r := source(3)
	for range rounds {
		list := events(r, 2)
		a, b := list[0], list[1]
		if a.Time < b.Time {
			expectIs(t, "CompareEvents of an earlier event", impl.CompareEvents(a, b), -1)
			expectIs(t, "CompareEvents of a later event", impl.CompareEvents(b, a), 1)
		}
	}
	expectIs(t, "CompareEvents by time", impl.CompareEvents(ev(1, 15, 99), ev(2, 0, 0)), -1)
	expectIs(t, "CompareEvents by key", impl.CompareEvents(ev(1, 1, 99), ev(1, 2, 0)), -1)
	expectIs(t, "CompareEvents by value", impl.CompareEvents(ev(1, 1, 4), ev(1, 1, 3)), 1)
}

func TestP4SortingDependsOnEventsOnly(t *testing.T) {
	r := source(4)
	for range rounds {
		list := someEvents(r, impl.MaxEvents)
		sorted := impl.SortEvents(list)
		expect(t, "SortEvents of the reversed list", impl.SortEvents(reversed(list)), sorted)
		expect(t, "SortEvents of sorted events", impl.SortEvents(sorted), sorted)
	}
}

func TestP5SortedEventsAscend(t *testing.T) {
	r := source(5)
	for range rounds {
		list := someEvents(r, impl.MaxEvents)
		sorted := impl.SortEvents(list)
		expect(t, "SortEvents", sorted, ordered(list))
		sum := 0
		for i, e := range sorted {
			sum += e.Value - list[i].Value
			expectTrue(t, "events ascend", i == 0 || impl.CompareEvents(sorted[i-1], e) <= 0)
		}
		expectIs(t, "the difference of the sums of values", sum, 0)
	}
}

func TestSortEventsOfInvalidLists(t *testing.T) {
	for _, list := range badLists() {
		expect(t, "SortEvents of invalid events", impl.SortEvents(list), nil)
	}
	expect(t, "SortEvents of no events", impl.SortEvents(nil), nil)
	full := events(source(6), impl.MaxEvents)
	expectIs(t, "the number of MaxEvents events sorted", len(impl.SortEvents(full)), impl.MaxEvents)
	expect(t, "SortEvents of one event too many", impl.SortEvents(append(full, ev(0, 0, 0))), nil)
}

func TestP6MergingIsSorting(t *testing.T) {
	r := source(7)
	for range rounds {
		n := oneOf(r, 0, 1, between(r, 0, impl.MaxEvents), impl.MaxEvents)
		a, b := ordered(events(r, n)), ordered(someEvents(r, impl.MaxEvents-n))
		merged := impl.MergeEvents(a, b)
		expect(t, "MergeEvents", merged, ordered(joined(a, b)))
		expect(t, "MergeEvents as SortEvents", merged, impl.SortEvents(joined(a, b)))
		expect(t, "MergeEvents in the other order", impl.MergeEvents(b, a), merged)
	}
}

func TestMergeEventsOfInvalidLists(t *testing.T) {
	good := []impl.Event{ev(1, 1, 1), ev(1, 1, 1), ev(4, 0, 0)}
	bad := append(badLists(), []impl.Event{ev(2, 0, 0), ev(1, 0, 0)}, []impl.Event{ev(1, 2, 0), ev(1, 1, 0)}, []impl.Event{ev(1, 1, 2), ev(1, 1, 1)})
	for _, list := range bad {
		for _, other := range [][]impl.Event{nil, good, list} {
			expect(t, "MergeEvents with an invalid first list", impl.MergeEvents(list, other), nil)
			expect(t, "MergeEvents with an invalid second list", impl.MergeEvents(other, list), nil)
		}
	}
	full := make([]impl.Event, impl.MaxEvents)
	expect(t, "MergeEvents of MaxEvents events and none", impl.MergeEvents(full, nil), full)
	expect(t, "MergeEvents of none and MaxEvents events", impl.MergeEvents(nil, full), full)
	expect(t, "MergeEvents of one more than MaxEvents", impl.MergeEvents(full[:20], full[:21]), nil)
	expectIs(t, "the number of MaxEvents events merged", len(impl.MergeEvents(full[:20], full[:20])), impl.MaxEvents)
}

func TestP7FiltersDivide(t *testing.T) {
	r := source(8)
	for range rounds {
		list := someEvents(r, impl.MaxEvents)
		low := between(r, -1, 20)
		high := between(r, low-1, 100)
		kept := impl.FilterEvents(list, low, high)
		var want []impl.Event
		for _, e := range list {
			if low <= e.Value && e.Value <= high {
				want = append(want, e)
			}
		}
		expect(t, "FilterEvents", kept, want)
		expect(t, "FilterEvents twice", impl.FilterEvents(kept, low, high), kept)
		if low <= high {
			all := joined(impl.FilterEvents(list, -1, low-1), kept)
			all = joined(all, impl.FilterEvents(list, high+1, impl.MaxValue))
			expect(t, "FilterEvents below, in and above a range", ordered(all), ordered(list))
		}
	}
}

func TestFilterEventsAtLimits(t *testing.T) {
	list := []impl.Event{ev(9, 0, 5), ev(3, 0, 4), ev(3, 0, 6), ev(1, 1, 5), ev(9, 0, 5)}
	expect(t, "FilterEvents of one value", impl.FilterEvents(list, 5, 5), []impl.Event{ev(9, 0, 5), ev(1, 1, 5), ev(9, 0, 5)})
	expect(t, "FilterEvents with all numbers", impl.FilterEvents(list, math.MinInt, math.MaxInt), list)
	expect(t, "FilterEvents of an empty range", impl.FilterEvents(list, 5, 4), nil)
	expect(t, "FilterEvents of a reversed range", impl.FilterEvents(list, math.MaxInt, math.MinInt), nil)
	for _, bad := range badLists() {
		expect(t, "FilterEvents of invalid events", impl.FilterEvents(bad, math.MinInt, math.MaxInt), nil)
	}
	full := events(source(9), impl.MaxEvents)
	expect(t, "FilterEvents of MaxEvents events", impl.FilterEvents(full, 0, impl.MaxValue), full)
}

func TestP8FilteringAndSortingCommute(t *testing.T) {
	r := source(10)
	for range rounds {
		list := someEvents(r, impl.MaxEvents)
		low, high := between(r, 0, 20), between(r, 0, impl.MaxValue)
		a := impl.FilterEvents(impl.SortEvents(list), low, high)
		b := impl.SortEvents(impl.FilterEvents(list, low, high))
		expect(t, "FilterEvents of SortEvents", a, b)
	}
}

func TestEventsKeepArguments(t *testing.T) {
	r := source(11)
	more := ev(77, 7, 77)
	for range rounds {
		g := guarded(someEvents(r, impl.MaxEvents), more)
		spoil(impl.SortEvents(g.list), ev(-5, -5, -5))
		g.check(t, "SortEvents")
		spoil(impl.FilterEvents(g.list, 0, impl.MaxValue), ev(-5, -5, -5))
		g.check(t, "FilterEvents")

		n := oneOf(r, 0, 1, 20)
		a, b := guarded(ordered(events(r, n)), more), guarded(ordered(someEvents(r, 20)), more)
		spoil(impl.MergeEvents(a.list, b.list), ev(-5, -5, -5))
		spoil(impl.MergeEvents(b.list, a.list), ev(-5, -5, -5))
		a.check(t, "MergeEvents")
		b.check(t, "MergeEvents")
	}
}

func TestSortEventsLeavesSortedArgument(t *testing.T) {
	list := []impl.Event{ev(1, 1, 1), ev(2, 2, 2)}
	sorted := impl.SortEvents(list)
	sorted[0] = ev(9, 9, 9)
	expect(t, "a sorted argument", list, []impl.Event{ev(1, 1, 1), ev(2, 2, 2)})
	expectTrue(t, "the result is sorted apart", slices.Equal(impl.SortEvents(list), list))
}
