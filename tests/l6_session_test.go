package tests

import (
	"math/rand/v2"
	"slices"
	"testing"

	"loop.example/eventstreams/impl"
)

// ses returns a session.
func ses(start int, end int, count int, sum int) impl.Session {
	return impl.Session{Start: start, End: end, Count: count, Sum: sum}
}

// someSessions returns valid sessions with up to most events each, often some that meet.
func someSessions(r *rand.Rand, most int) []impl.Session {
	var list []impl.Session
	n, step := oneOf(r, 0, 1, 2, between(r, 0, 9), impl.MaxEvents), oneOf(r, 2, 12, 24, 400)
	at := oneOf(r, 0, between(r, 0, 50))
	for len(list) < n && at <= impl.MaxTime {
		end := at + between(r, 1, min(step, lastEnd-at))
		count := between(r, 1, most)
		list = append(list, ses(at, end, count, oneOf(r, 0, between(r, 0, count*impl.MaxValue), count*impl.MaxValue)))
		at = end + oneOf(r, 0, 1, between(r, 0, step))
	}
	return list
}

// someGap returns a gap, often a short one or one at a limit.
func someGap(r *rand.Rand) int {
	return oneOf(r, 1, between(r, 1, 5), between(r, 1, 60), between(r, 1, impl.MaxTime), impl.MaxTime)
}

// someEvent returns a valid event, often an early one.
func someEvent(r *rand.Rand) impl.Event {
	return ev(oneOf(r, between(r, 0, 30), between(r, 0, impl.MaxTime)), between(r, 0, impl.MaxKey), between(r, 0, impl.MaxValue))
}

// badSessions returns lists of sessions that are invalid, each for one reason.
func badSessions() [][]impl.Session {
	bad := []impl.Session{{}, ses(-1, 5, 1, 1), ses(impl.MaxTime+1, impl.MaxTime+2, 1, 1), ses(5, 5, 1, 1), ses(5, 4, 1, 1), ses(5, lastEnd+1, 1, 1)}
	bad = append(bad, ses(5, 6, 0, 0), ses(5, 6, -1, 0), ses(5, 6, impl.MaxEvents+1, 1), ses(5, 6, 1, -1), ses(5, 6, 1, impl.MaxValue+1), ses(5, 6, 40, 40*impl.MaxValue+1))
	for _, x := range extremes {
		bad = append(bad, ses(x, 6, 1, 1), ses(5, x, 1, 1), ses(5, 6, x, 1), ses(5, 6, 1, x), ses(x, x, x, x))
	}
	many := make([]impl.Session, impl.MaxEvents+1)
	for i := range many {
		many[i] = ses(9*i, 9*i+4, 1, 1)
	}
	lists := [][]impl.Session{many}
	for _, s := range bad {
		lists = append(lists, []impl.Session{s}, []impl.Session{ses(0, 3, 1, 1), s}, []impl.Session{s, ses(700, 703, 1, 1)})
	}
	first, next := ses(0, 5, 1, 1), ses(4, 9, 1, 1)
	lists = append(lists, []impl.Session{first, next}, []impl.Session{next, first}, []impl.Session{first, first})
	return append(lists, []impl.Session{ses(8, 9, 1, 1), first}, []impl.Session{first, ses(7, 9, 1, 1), ses(8, 10, 1, 1)})
}

// goodSessions reports whether sessions are valid.
func goodSessions(list []impl.Session) bool {
	for i, s := range list {
		times := s.Start >= 0 && s.Start <= impl.MaxTime && s.Start < s.End && s.End <= lastEnd
		values := s.Count >= 1 && s.Count <= impl.MaxEvents && s.Sum >= 0 && s.Sum <= s.Count*impl.MaxValue
		if !times || !values || i > 0 && s.Start < list[i-1].End {
			return false
		}
	}
	return len(list) <= impl.MaxEvents
}

// overlapping returns the indices of two sessions with a common time, if there are any.
func overlapping(list []impl.Session) (int, int, bool) {
	for i, a := range list {
		for k, b := range list[:i] {
			if max(a.Start, b.Start) < min(a.End, b.End) {
				return k, i, true
			}
		}
	}
	return 0, 0, false
}

// mergeSessionsSlowly returns what MergeSessions should, by merging any two sessions with a common time until there are none.
func mergeSessionsSlowly(list []impl.Session) ([]impl.Session, bool) {
	list = slices.Clone(list)
	for {
		i, k, found := overlapping(list)
		if !found {
			break
		}
		a, b := list[i], list[k]
		list[i] = ses(min(a.Start, b.Start), max(a.End, b.End), a.Count+b.Count, a.Sum+b.Sum)
		list = slices.Delete(list, k, k+1)
	}
	slices.SortFunc(list, func(a impl.Session, b impl.Session) int { return a.Start - b.Start })
	if !goodSessions(list) {
		return nil, false
	}
	return list, true
}

// totals returns the counts and the sums of all sessions.
func totals(list []impl.Session) (int, int) {
	count, sum := 0, 0
	for _, s := range list {
		count, sum = count+s.Count, sum+s.Sum
	}
	return count, sum
}

// withTime returns how many sessions have a time.
func withTime(list []impl.Session, time int) int {
	n := 0
	for _, s := range list {
		if s.Start <= time && time < s.End {
			n++
		}
	}
	return n
}

func TestP34EveryEventHasASession(t *testing.T) {
	r := source(60)
	refused := 0
	for range rounds * 5 {
		list, e, gap := someSessions(r, oneOf(r, 1, 9, impl.MaxEvents)), someEvent(r), someGap(r)
		got, ok := impl.AddSession(list, e, gap)
		want, valid := mergeSessionsSlowly(append(slices.Clone(list), ses(e.Time, e.Time+gap, 1, e.Value)))
		expectIs(t, "whether AddSession succeeds", ok, valid)
		expect(t, "AddSession", got, want)
		if !ok {
			refused++
			continue
		}
		expectIs(t, "the number of sessions with the time of the event", withTime(got, e.Time), 1)
		count, sum := totals(list)
		more, moreSum := totals(got)
		expectIs(t, "the counts after an event", more, count+1)
		expectIs(t, "the sums after an event", moreSum, sum+e.Value)
	}
	expectTrue(t, "some results are invalid, most are not", refused > 20 && refused < rounds*2)
}

func TestAddSessionAtGaps(t *testing.T) {
	list := []impl.Session{ses(10, 15, 1, 4), ses(20, 25, 2, 9)}
	for _, c := range []struct {
		time, gap int
		want      []impl.Session
	}{
		{4, 5, []impl.Session{ses(4, 9, 1, 7), ses(10, 15, 1, 4), ses(20, 25, 2, 9)}},
		{5, 5, []impl.Session{ses(5, 10, 1, 7), ses(10, 15, 1, 4), ses(20, 25, 2, 9)}},
		{6, 5, []impl.Session{ses(6, 15, 2, 11), ses(20, 25, 2, 9)}},
		{14, 5, []impl.Session{ses(10, 19, 2, 11), ses(20, 25, 2, 9)}},
		{14, 6, []impl.Session{ses(10, 20, 2, 11), ses(20, 25, 2, 9)}},
		{14, 7, []impl.Session{ses(10, 25, 4, 20)}},
		{15, 5, []impl.Session{ses(10, 15, 1, 4), ses(15, 20, 1, 7), ses(20, 25, 2, 9)}},
		{15, 6, []impl.Session{ses(10, 15, 1, 4), ses(15, 25, 3, 16)}},
		{12, 1, []impl.Session{ses(10, 15, 2, 11), ses(20, 25, 2, 9)}},
		{25, 1, []impl.Session{ses(10, 15, 1, 4), ses(20, 25, 2, 9), ses(25, 26, 1, 7)}},
		{24, 999, []impl.Session{ses(10, 15, 1, 4), ses(20, 1023, 3, 16)}},
		{0, 999, []impl.Session{ses(0, 999, 4, 20)}},
		{999, 999, []impl.Session{ses(10, 15, 1, 4), ses(20, 25, 2, 9), ses(999, lastEnd, 1, 7)}},
	} {
		got, ok := impl.AddSession(list, ev(c.time, 3, 7), c.gap)
		expectTrue(t, "an event can be added", ok)
		expect(t, "AddSession", got, c.want)
	}
}

func TestAddSessionUpToTheLimits(t *testing.T) {
	full := []impl.Session{ses(0, 10, impl.MaxEvents-1, 0)}
	got, ok := impl.AddSession(full, ev(3, 0, 99), 5)
	expectTrue(t, "a session can have MaxEvents events", ok)
	expect(t, "AddSession of the last event", got, []impl.Session{ses(0, 10, impl.MaxEvents, 99)})
	over, ok := impl.AddSession(got, ev(3, 0, 0), 5)
	expectTrue(t, "a session has no more than MaxEvents events", !ok && over == nil)
	many := make([]impl.Session, impl.MaxEvents)
	for i := range many {
		many[i] = ses(9*i, 9*i+4, 1, 1)
	}
	over, ok = impl.AddSession(many, ev(5, 0, 0), 1)
	expectTrue(t, "there are no more than MaxEvents sessions", !ok && over == nil)
	got, ok = impl.AddSession(many[1:], ev(2, 0, 1), 2)
	expectTrue(t, "there can be MaxEvents sessions", ok && len(got) == impl.MaxEvents)
	got, ok = impl.AddSession(many, ev(3, 0, 0), 7)
	expectTrue(t, "merging makes room", ok && len(got) == impl.MaxEvents-1)
}

func TestAddSessionOfInvalidArguments(t *testing.T) {
	refuse := func(list []impl.Session, e impl.Event, gap int) {
		t.Helper()
		if got, ok := impl.AddSession(list, e, gap); ok || got != nil {
			t.Fatalf("AddSession(%v, %v, %d) = %v, %v", list, e, gap, got, ok)
		}
	}
	list := []impl.Session{ses(10, 15, 1, 4)}
	for _, e := range badEvents() {
		refuse(list, e, 5)
	}
	for _, gap := range badSizes() {
		refuse(list, ev(3, 3, 3), gap)
	}
	for _, bad := range badSessions() {
		refuse(bad, ev(3, 3, 3), 5)
		refuse(bad, ev(900, 3, 3), 5)
		refuse(bad, ev(0, 3, 3), impl.MaxTime)
	}
	edges := []impl.Session{ses(0, 1, 1, 0), ses(1, impl.MaxTime, impl.MaxEvents, impl.MaxEvents*impl.MaxValue), ses(impl.MaxTime, lastEnd, 1, impl.MaxValue)}
	got, ok := impl.AddSession(edges, ev(0, 0, 0), 1)
	expectTrue(t, "sessions at the limits are valid", ok)
	expect(t, "AddSession to sessions at the limits", got[1:], edges[1:])
}

func TestP35TheOrderOfEventsDoesNotMatter(t *testing.T) {
	r := source(61)
	for range rounds * 2 {
		list, gap := someEvents(r, impl.MaxEvents), someGap(r)
		sessions := impl.SessionsOf(list, gap)
		expect(t, "SessionsOf in reverse order", impl.SessionsOf(reversed(list), gap), sessions)
		expect(t, "SessionsOf of sorted events", impl.SessionsOf(impl.SortEvents(list), gap), sessions)
	}
}

// sessionsSlowly returns what SessionsOf should: sorted events, divided at gaps.
func sessionsSlowly(list []impl.Event, gap int) []impl.Session {
	var out []impl.Session
	last := 0
	for _, e := range ordered(list) {
		if out == nil || e.Time-last >= gap {
			out = append(out, ses(e.Time, 0, 0, 0))
		}
		s := &out[len(out)-1]
		s.End, s.Count, s.Sum = e.Time+gap, s.Count+1, s.Sum+e.Value
		last = e.Time
	}
	return out
}

func TestP36SessionsAreDividedByGaps(t *testing.T) {
	r := source(62)
	divided := 0
	for range rounds * 2 {
		list, gap := someEvents(r, impl.MaxEvents), someGap(r)
		sessions := impl.SessionsOf(list, gap)
		expect(t, "SessionsOf", sessions, sessionsSlowly(list, gap))
		divided += max(len(sessions)-1, 0)
		count, sum := totals(sessions)
		for _, e := range list {
			count, sum = count-1, sum-e.Value
		}
		expectTrue(t, "counts and sums are those of the events", count == 0 && sum == 0)
	}
	expectTrue(t, "some sessions are divided", divided > rounds)
	list := []impl.Event{ev(20, 1, 3), ev(10, 2, 5)}
	expect(t, "SessionsOf with a gap that is met", impl.SessionsOf(list, 10), []impl.Session{ses(10, 20, 1, 5), ses(20, 30, 1, 3)})
	expect(t, "SessionsOf with a longer gap", impl.SessionsOf(list, 11), []impl.Session{ses(10, 31, 2, 8)})
	expect(t, "SessionsOf with a shorter gap", impl.SessionsOf(list, 9), []impl.Session{ses(10, 19, 1, 5), ses(20, 29, 1, 3)})
}

func TestSessionsOfAtLimits(t *testing.T) {
	many := slices.Repeat([]impl.Event{ev(impl.MaxTime, 15, impl.MaxValue)}, impl.MaxEvents)
	expect(t, "SessionsOf of MaxEvents equal events", impl.SessionsOf(many, impl.MaxTime), []impl.Session{ses(impl.MaxTime, lastEnd, impl.MaxEvents, impl.MaxEvents*impl.MaxValue)})
	for i := range many {
		many[i].Time = i
	}
	expectIs(t, "the number of sessions of MaxEvents times", len(impl.SessionsOf(many, 1)), impl.MaxEvents)
	expectIs(t, "the number of sessions of MaxEvents times without gaps", len(impl.SessionsOf(many, 2)), 1)
	expect(t, "SessionsOf of no events", impl.SessionsOf(nil, 1), nil)
	for _, gap := range badSizes() {
		expect(t, "SessionsOf with an invalid gap", impl.SessionsOf(many, gap), nil)
	}
	for _, bad := range badLists() {
		expect(t, "SessionsOf of invalid events", impl.SessionsOf(bad, 5), nil)
	}
}

func TestP37SessionsGrowEventByEvent(t *testing.T) {
	r := source(63)
	for range rounds {
		list, gap := events(r, between(r, 1, impl.MaxEvents)), someGap(r)
		n := len(list) - 1
		got, ok := impl.AddSession(impl.SessionsOf(list[:n], gap), list[n], gap)
		expectTrue(t, "the last event can be added", ok)
		expect(t, "AddSession of the last event", got, impl.SessionsOf(list, gap))
	}
}

func TestP38MergingSessionsIsCommutative(t *testing.T) {
	r := source(64)
	refused := 0
	for range rounds * 5 {
		most := oneOf(r, 1, 2, 15)
		a, b := someSessions(r, most), someSessions(r, most)
		got, ok := impl.MergeSessions(a, b)
		want, valid := mergeSessionsSlowly(joined(a, b))
		expectIs(t, "whether MergeSessions succeeds", ok, valid)
		expect(t, "MergeSessions", got, want)
		other, same := impl.MergeSessions(b, a)
		expectIs(t, "whether MergeSessions in the other order succeeds", same, ok)
		expect(t, "MergeSessions in the other order", other, got)
		alone, ok := impl.MergeSessions(a, nil)
		expectTrue(t, "an empty list can be merged", ok)
		expect(t, "MergeSessions with an empty list", alone, a)
		if !valid {
			refused++
			continue
		}
		count, _ := totals(got)
		expected, _ := totals(joined(a, b))
		expectIs(t, "the counts of merged sessions", count, expected)
	}
	expectTrue(t, "some results are invalid, most are not", refused > 20 && refused < rounds*3)
}

func TestMergeSessionsUpToTheLimits(t *testing.T) {
	many := make([]impl.Session, impl.MaxEvents)
	for i := range many {
		many[i] = ses(20*i, 20*i+10, 1, 1)
	}
	one := []impl.Session{ses(15, 16, 1, 1)}
	got, ok := impl.MergeSessions(many, one)
	expectTrue(t, "there are no more than MaxEvents sessions", !ok && got == nil)
	got, ok = impl.MergeSessions(one, many[1:])
	expectTrue(t, "there can be MaxEvents sessions", ok && len(got) == impl.MaxEvents)
	// In between there are more than MaxEvents sessions, but not in the result.
	two := append(one, ses(25, 41, 1, 1))
	got, ok = impl.MergeSessions(many, two)
	expectTrue(t, "only the result has to be valid", ok)
	expect(t, "MergeSessions of a full list", got, joined([]impl.Session{many[0], one[0], ses(20, 50, 3, 3)}, many[3:]))
	got, ok = impl.MergeSessions([]impl.Session{ses(0, 5, 20, 7)}, []impl.Session{ses(4, 9, 20, 8)})
	expectTrue(t, "a session can have MaxEvents events", ok)
	expect(t, "MergeSessions with MaxEvents events", got, []impl.Session{ses(0, 9, impl.MaxEvents, 15)})
	got, ok = impl.MergeSessions([]impl.Session{ses(0, 5, 20, 7)}, []impl.Session{ses(4, 9, 21, 8)})
	expectTrue(t, "a session has no more than MaxEvents events", !ok && got == nil)
	got, ok = impl.MergeSessions([]impl.Session{ses(0, 5, 20, 7)}, []impl.Session{ses(5, 9, 21, 8)})
	expectTrue(t, "sessions that meet are not merged", ok)
	expect(t, "MergeSessions of sessions that meet", got, []impl.Session{ses(0, 5, 20, 7), ses(5, 9, 21, 8)})
	got, ok = impl.MergeSessions(nil, nil)
	expectTrue(t, "no sessions can be merged", ok && len(got) == 0)
	for _, bad := range badSessions() {
		for _, good := range [][]impl.Session{nil, one, {ses(0, lastEnd, 1, 1)}} {
			got, ok = impl.MergeSessions(bad, good)
			expectTrue(t, "an invalid first list is refused", !ok && got == nil)
			got, ok = impl.MergeSessions(good, bad)
			expectTrue(t, "an invalid second list is refused", !ok && got == nil)
		}
	}
}

func TestP39SessionsOfPartsAreSessionsOfTheWhole(t *testing.T) {
	r := source(65)
	for range rounds * 2 {
		list, gap := someEvents(r, impl.MaxEvents), someGap(r)
		n := between(r, 0, len(list))
		got, ok := impl.MergeSessions(impl.SessionsOf(list[:n], gap), impl.SessionsOf(list[n:], gap))
		expectTrue(t, "sessions of parts can be merged", ok)
		expect(t, "MergeSessions of parts", got, impl.SessionsOf(list, gap))
	}
}

func TestP40SessionsAreClosedOrOpen(t *testing.T) {
	r := source(66)
	both := 0
	for range rounds * 3 {
		list := someSessions(r, impl.MaxEvents)
		mark := oneOf(r, -1, between(r, -1, 100), between(r, -1, lastEnd))
		closed, open := impl.ClosedSessions(list, mark)
		expect(t, "closed and open sessions", joined(closed, open), list)
		for _, s := range closed {
			expectTrue(t, "the times of a closed session are over", s.End-1 <= mark)
		}
		for _, s := range open {
			expectTrue(t, "an open session has a time behind the watermark", s.End-1 > mark)
		}
		later, _ := impl.ClosedSessions(list, between(r, mark, lastEnd))
		expectTrue(t, "a greater watermark closes as many sessions", len(later) >= len(closed))
		if len(closed) > 0 && len(open) > 0 {
			both++
		}
	}
	expectTrue(t, "some sessions are closed and others open", both > 100)
}

func TestClosedSessionsAtLimits(t *testing.T) {
	list := []impl.Session{ses(0, 1, 1, 1), ses(1, 7, 1, 1), ses(impl.MaxTime, lastEnd, 1, 1)}
	for _, c := range [][2]int{{-1, 0}, {0, 1}, {5, 1}, {6, 2}, {lastEnd - 2, 2}, {lastEnd - 1, 3}, {lastEnd, 3}} {
		closed, open := impl.ClosedSessions(list, c[0])
		expect(t, "closed sessions", closed, list[:c[1]])
		expect(t, "open sessions", open, list[c[1]:])
	}
	for _, mark := range joined(extremes, []int{-2, lastEnd + 1}) {
		closed, open := impl.ClosedSessions(list, mark)
		expectTrue(t, "an invalid watermark divides nothing", closed == nil && open == nil)
	}
	for _, bad := range badSessions() {
		closed, open := impl.ClosedSessions(bad, 6)
		expectTrue(t, "invalid sessions are not divided", closed == nil && open == nil)
	}
}

func TestP41LaterEventsDoNotChangeClosedSessions(t *testing.T) {
	r := source(67)
	for range rounds * 3 {
		list, mark := someSessions(r, 9), between(r, -1, impl.MaxTime-1)
		e := ev(oneOf(r, mark+1, between(r, mark+1, impl.MaxTime)), 1, 5)
		closed, _ := impl.ClosedSessions(list, mark)
		more, ok := impl.AddSession(list, e, someGap(r))
		if ok {
			after, _ := impl.ClosedSessions(more, mark)
			expect(t, "ClosedSessions after a later event", after, closed)
		}
	}
}

func TestSessionsKeepArguments(t *testing.T) {
	r := source(68)
	bad := ses(-5, -5, -5, -5)
	for range rounds {
		a, b := guarded(someSessions(r, 2), ses(77, 78, 1, 1)), guarded(someSessions(r, 2), ses(88, 89, 1, 1))
		list := guarded(someEvents(r, impl.MaxEvents), ev(77, 7, 77))
		gap := someGap(r)
		added, _ := impl.AddSession(a.list, someEvent(r), gap)
		spoil(added, bad)
		merged, _ := impl.MergeSessions(a.list, b.list)
		spoil(merged, bad)
		merged, _ = impl.MergeSessions(a.list, nil)
		spoil(merged, bad)
		merged, _ = impl.MergeSessions(nil, a.list)
		spoil(merged, bad)
		spoil(impl.SessionsOf(list.list, gap), bad)
		closed, open := impl.ClosedSessions(a.list, between(r, -1, 200))
		kept := slices.Clone(open)
		spoil(closed, bad)
		expect(t, "open sessions after closed ones were overwritten", open, kept)
		spoil(open, bad)
		a.check(t, "a function of sessions")
		b.check(t, "MergeSessions")
		list.check(t, "SessionsOf")
	}
}
