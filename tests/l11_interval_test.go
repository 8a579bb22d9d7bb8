package tests

import (
	"math/rand/v2"
	"slices"
	"testing"

	"loop.example/eventstreams/impl"
)

// pair returns a pair.
func pair(left impl.Event, right impl.Event) impl.Pair {
	return impl.Pair{Left: left, Right: right}
}

// join returns the state of a join.
func join(mark int, left []impl.Event, right []impl.Event) impl.JoinState {
	return impl.JoinState{Left: left, Right: right, Mark: mark}
}

// twoLists returns two lists of valid events with numbers from the same ranges.
func twoLists(r *rand.Rand) ([]impl.Event, []impl.Event) {
	n := oneOf(r, 0, 1, 5, between(r, 0, impl.MaxEvents), impl.MaxEvents)
	all := events(r, n+oneOf(r, 0, 1, 5, between(r, 0, impl.MaxEvents), impl.MaxEvents))
	return all[:n], all[n:]
}

// someInterval returns valid bounds, often narrow ones, of any sign.
func someInterval(r *rand.Rand) (int, int) {
	low := oneOf(r, -impl.MaxTime, between(r, -5, 5), between(r, -60, 60), between(r, -impl.MaxTime, impl.MaxTime))
	high := oneOf(r, low, low+between(r, 0, 10), low+between(r, 0, 100), impl.MaxTime)
	return low, min(high, impl.MaxTime)
}

// someJoin returns a valid state of a join.
func someJoin(r *rand.Rand) impl.JoinState {
	left, right := twoLists(r)
	return join(oneOf(r, -1, between(r, -1, 5), between(r, -1, 60), between(r, -1, impl.MaxReach)), left, right)
}

// eventOfJoin returns a valid event, often with the key of an event of a state and a time near to it.
func eventOfJoin(r *rand.Rand, s impl.JoinState) impl.Event {
	all := joined(s.Left, s.Right)
	if len(all) == 0 || r.IntN(4) == 0 {
		return someEvent(r)
	}
	e := all[r.IntN(len(all))]
	return ev(min(max(e.Time+between(r, -10, 10), 0), impl.MaxTime), e.Key, between(r, 0, impl.MaxValue))
}

// badIntervals returns bounds that are invalid, each for one reason.
func badIntervals() [][2]int {
	n := impl.MaxTime
	list := [][2]int{{-n - 1, 0}, {-n - 1, n}, {0, n + 1}, {-n, n + 1}, {1, 0}, {n, n - 1}, {n, -n}, {-n + 1, -n}, {n + 1, n + 1}, {-n - 1, -n - 1}}
	for _, x := range extremes {
		list = append(list, [2]int{x, 0}, [2]int{0, x}, [2]int{x, x})
	}
	return list
}

// badJoins returns states of joins that are invalid, each for one reason.
func badJoins() []impl.JoinState {
	var list []impl.JoinState
	good := []impl.Event{ev(5, 5, 5)}
	for _, bad := range badLists() {
		list = append(list, join(-1, bad, nil), join(-1, nil, bad), join(3, good, bad), join(3, bad, good))
	}
	for _, mark := range badReaches() {
		list = append(list, join(mark, nil, nil), join(mark, good, good))
	}
	return list
}

// are reports whether two events should be joined.
func are(left impl.Event, right impl.Event, low int, high int) bool {
	return left.Key == right.Key && right.Time >= left.Time+low && right.Time <= left.Time+high
}

// pairsSlowly returns what IntervalJoin should for valid arguments.
func pairsSlowly(left []impl.Event, right []impl.Event, low int, high int) []impl.Pair {
	var list []impl.Pair
	for i := range len(left) * len(right) {
		if l, r := left[i/len(right)], right[i%len(right)]; are(l, r, low, high) {
			list = append(list, pair(l, r))
		}
	}
	return list
}

// inAnyOrder returns pairs in an order that depends only on the pairs.
func inAnyOrder(list []impl.Pair) []impl.Pair {
	out := slices.Clone(list)
	slices.SortFunc(out, func(a impl.Pair, b impl.Pair) int {
		switch {
		case ahead(a.Left, b.Left) || a.Left == b.Left && ahead(a.Right, b.Right):
			return -1
		case a == b:
			return 0
		}
		return 1
	})
	return out
}

// expectJoin fails the test if the state of a join is not as expected.
func expectJoin(t *testing.T, what string, got impl.JoinState, want impl.JoinState) {
	t.Helper()
	expectIs(t, "Mark of "+what, got.Mark, want.Mark)
	expect(t, "Left of "+what, got.Left, want.Left)
	expect(t, "Right of "+what, got.Right, want.Right)
}

// expectNoJoin fails the test if results are not those of invalid arguments.
func expectNoJoin(t *testing.T, what string, s impl.JoinState, ok bool) {
	t.Helper()
	if s.Left != nil || s.Right != nil || s.Mark != 0 || ok {
		t.Fatalf("%s = %v, %v", what, s, ok)
	}
}

func TestP66JoinsCanBeTurnedAround(t *testing.T) {
	r := source(113)
	found := 0
	for range rounds * 2 {
		left, right := twoLists(r)
		low, high := someInterval(r)
		pairs := impl.IntervalJoin(left, right, low, high)
		around := impl.IntervalJoin(right, left, -high, -low)
		for i, p := range around {
			around[i] = pair(p.Right, p.Left)
		}
		expect(t, "IntervalJoin turned around", inAnyOrder(around), inAnyOrder(pairs))
		found += len(pairs)
	}
	expectTrue(t, "there are some pairs", found > rounds)
}

func TestP67JoinedEventsHaveOneKeyAndNearTimes(t *testing.T) {
	r := source(114)
	var found, more int
	for range rounds * 2 {
		left, right := twoLists(r)
		low, high := someInterval(r)
		pairs := impl.IntervalJoin(left, right, low, high)
		expect(t, "IntervalJoin", pairs, pairsSlowly(left, right, low, high))
		for _, p := range pairs {
			found++
			expectIs(t, "the key of the right event", p.Right.Key, p.Left.Key)
			d := p.Right.Time - p.Left.Time
			expectTrue(t, "the times are near", d >= low && d <= high)
		}
		wide := impl.IntervalJoin(left, right, between(r, -impl.MaxTime, low), between(r, high, impl.MaxTime))
		expectTrue(t, "a wider range has at least as many pairs", len(wide) >= len(pairs))
		if len(wide) > len(pairs) {
			more++
		}
	}
	expectTrue(t, "there are some pairs, and more in some wider ranges", found > rounds && more > 100)
}

func TestIntervalJoinAtLimits(t *testing.T) {
	n := impl.MaxTime
	a, b, c := ev(0, 3, 1), ev(n, 3, 2), ev(n-1, 3, 2)
	for _, x := range []struct {
		low, high int
		want      []impl.Pair
	}{
		{-n, -n, []impl.Pair{pair(b, a)}},
		{n, n, []impl.Pair{pair(a, b)}},
		{-n, n, []impl.Pair{pair(a, a), pair(a, b), pair(a, c), pair(b, a), pair(b, b), pair(b, c), pair(c, a), pair(c, b), pair(c, c)}},
		{0, 0, []impl.Pair{pair(a, a), pair(b, b), pair(c, c)}},
		{1, 1, []impl.Pair{pair(c, b)}},
		{-1, -1, []impl.Pair{pair(b, c)}},
		{n - 1, n - 1, []impl.Pair{pair(a, c)}},
		{-2, 0, []impl.Pair{pair(a, a), pair(b, b), pair(b, c), pair(c, c)}},
	} {
		expect(t, "IntervalJoin", impl.IntervalJoin([]impl.Event{a, b, c}, []impl.Event{a, b, c}, x.low, x.high), x.want)
	}
	same := slices.Repeat([]impl.Event{ev(7, 0, 9)}, impl.MaxEvents)
	expectIs(t, "the number of pairs of equal events", len(impl.IntervalJoin(same, same, 0, 0)), impl.MaxEvents*impl.MaxEvents)
	expect(t, "IntervalJoin of edges", impl.IntervalJoin(edgeEvents(), edgeEvents(), -n, 0), pairsSlowly(edgeEvents(), edgeEvents(), -n, 0))
	for _, list := range [][]impl.Event{nil, same} {
		expectTrue(t, "there are no pairs without events of a side", len(impl.IntervalJoin(nil, list, -n, n)) == 0 && len(impl.IntervalJoin(list, nil, -n, n)) == 0)
	}
	expectTrue(t, "events with different keys are not joined", len(impl.IntervalJoin([]impl.Event{ev(5, 1, 5)}, []impl.Event{ev(5, 2, 5)}, -n, n)) == 0)
}

func TestIntervalJoinOfInvalidArguments(t *testing.T) {
	good := []impl.Event{ev(5, 5, 5), ev(0, 0, 0)}
	for _, bad := range badLists() {
		expectTrue(t, "IntervalJoin of invalid events is nil", impl.IntervalJoin(bad, good, -9, 9) == nil && impl.IntervalJoin(good, bad, -9, 9) == nil && impl.IntervalJoin(bad, bad, -9, 9) == nil)
	}
	for _, x := range badIntervals() {
		expectTrue(t, "IntervalJoin with invalid bounds is nil", impl.IntervalJoin(good, good, x[0], x[1]) == nil)
	}
}

func TestP68NewEventsAreJoinedWithWhatIsKept(t *testing.T) {
	r := source(115)
	var found, late, full int
	for range rounds * 5 {
		s := someJoin(r)
		e, right := eventOfJoin(r, s), r.IntN(2) == 0
		low, high := someInterval(r)
		next, pairs, ok := impl.JoinEvent(s, e, right, low, high)
		want, wanted, side := join(s.Mark, joined(s.Left, []impl.Event{e}), s.Right), impl.IntervalJoin([]impl.Event{e}, s.Right, low, high), s.Left
		if right {
			want, wanted, side = join(s.Mark, s.Left, joined(s.Right, []impl.Event{e})), impl.IntervalJoin(s.Left, []impl.Event{e}, low, high), s.Right
		}
		if e.Time <= s.Mark || len(side) == impl.MaxEvents {
			expectNoJoin(t, "JoinEvent of an event that is late or has no room", next, ok)
			expectTrue(t, "it has no pairs", pairs == nil)
			late, full = late+min(1, max(0, s.Mark-e.Time+1)), full+len(side)/impl.MaxEvents
			continue
		}
		expectTrue(t, "the event is handled", ok)
		expectJoin(t, "JoinEvent", next, want)
		expect(t, "the pairs of JoinEvent", pairs, wanted)
		found += len(pairs)
	}
	expectTrue(t, "there are some pairs, late events, and full sides", found > rounds && late > rounds && full > rounds/4)
}

func TestJoinEventAtLimits(t *testing.T) {
	n := impl.MaxEvents
	for _, right := range []bool{false, true} {
		for _, mark := range []int{-1, 0, 5, impl.MaxTime - 1, impl.MaxTime, impl.MaxTime + 1, impl.MaxReach} {
			s := join(mark, nil, nil)
			for _, time := range []int{mark - 1, mark, mark + 1} {
				_, _, ok := impl.JoinEvent(s, ev(time, 0, 0), right, 0, 0)
				expectIs(t, "whether an event is handled", ok, time == mark+1 && time <= impl.MaxTime)
			}
		}
		for _, sizes := range [][2]int{{n - 1, n}, {n, n - 1}, {n, n}} {
			s := join(4, make([]impl.Event, sizes[0]), make([]impl.Event, sizes[1]))
			next, pairs, ok := impl.JoinEvent(s, ev(5, 0, 0), right, -impl.MaxTime, impl.MaxTime)
			own, other := sizes[0], sizes[1]
			if right {
				own, other = other, own
			}
			if own == n {
				expectNoJoin(t, "JoinEvent of a full side", next, ok)
				expectTrue(t, "a full side has no new pairs", pairs == nil)
				continue
			}
			expectIs(t, "the number of pairs", len(pairs), other)
			expectIs(t, "the number of events", len(next.Left)+len(next.Right), 2*n)
		}
	}
	l, r := ev(10, 1, 1), ev(20, 1, 2)
	for _, c := range []struct{ low, high, left, right int }{{10, 10, 1, 1}, {-10, -10, 0, 0}, {11, 11, 0, 0}, {9, 9, 0, 0}, {-9, 9, 0, 0}, {-10, 10, 1, 1}} {
		_, pairs, _ := impl.JoinEvent(join(-1, []impl.Event{l}, nil), r, true, c.low, c.high)
		expect(t, "the pairs of a right event", pairs, slices.Repeat([]impl.Pair{pair(l, r)}, c.right))
		_, pairs, _ = impl.JoinEvent(join(-1, nil, []impl.Event{r}), l, false, c.low, c.high)
		expect(t, "the pairs of a left event", pairs, slices.Repeat([]impl.Pair{pair(l, r)}, c.left))
	}
}

func TestJoinEventOfInvalidArguments(t *testing.T) {
	s := join(3, []impl.Event{ev(5, 1, 1)}, []impl.Event{ev(5, 1, 2)})
	for _, right := range []bool{false, true} {
		for _, bad := range badJoins() {
			next, pairs, ok := impl.JoinEvent(bad, ev(impl.MaxTime, 1, 1), right, -9, 9)
			expectNoJoin(t, "JoinEvent in an invalid state", next, ok)
			expectTrue(t, "an invalid state has no pairs", pairs == nil)
		}
		for _, x := range badIntervals() {
			next, pairs, ok := impl.JoinEvent(s, ev(6, 1, 1), right, x[0], x[1])
			expectNoJoin(t, "JoinEvent with invalid bounds", next, ok)
			expectTrue(t, "invalid bounds have no pairs", pairs == nil)
		}
		for _, e := range append(badEvents(), ev(3, 1, 1), ev(0, 1, 1)) {
			next, pairs, ok := impl.JoinEvent(s, e, right, -9, 9)
			expectNoJoin(t, "JoinEvent of an invalid or a late event", next, ok)
			expectTrue(t, "an invalid or a late event has no pairs", pairs == nil)
		}
	}
}

func TestP69EventsThatAreRemovedAreNotNeeded(t *testing.T) {
	r := source(116)
	var found, removed int
	for range rounds * 5 {
		s := someJoin(r)
		s.Left, s.Right = s.Left[:min(len(s.Left), impl.MaxEvents-1)], s.Right[:min(len(s.Right), impl.MaxEvents-1)]
		e, right := eventOfJoin(r, s), r.IntN(2) == 0
		if e.Time <= s.Mark {
			continue
		}
		low, high := someInterval(r)
		_, before, _ := impl.JoinEvent(s, e, right, low, high)
		less, ok := impl.JoinMark(s, oneOf(r, e.Time-1, between(r, s.Mark, e.Time-1)), low, high)
		expectTrue(t, "the watermark is handled", ok)
		_, after, ok := impl.JoinEvent(less, e, right, low, high)
		expectTrue(t, "the event is behind the watermark", ok)
		expect(t, "the pairs after JoinMark", after, before)
		found += len(after)
		removed += len(s.Left) + len(s.Right) - len(less.Left) - len(less.Right)
	}
	expectTrue(t, "there are some pairs, and events are removed", found > rounds && removed > rounds)
}

// needed returns the events of a side with which an event of any time behind a watermark could be joined.
func needed(list []impl.Event, mark int, right bool, low int, high int) []impl.Event {
	var out []impl.Event
	for _, e := range list {
		last := e.Time + high
		if right {
			last = e.Time - low
		}
		if mark < last {
			out = append(out, e)
		}
	}
	return out
}

func TestP70WatermarksOfJoinsCanBeSkipped(t *testing.T) {
	r := source(117)
	var kept, removed int
	for range rounds * 3 {
		s := someJoin(r)
		low, high := someInterval(r)
		last := oneOf(r, s.Mark, min(impl.MaxReach, s.Mark+between(r, 0, 60)), between(r, s.Mark, impl.MaxReach))
		first, ok := impl.JoinMark(s, between(r, s.Mark, last), low, high)
		expectTrue(t, "the first step succeeds", ok)
		second, ok := impl.JoinMark(first, last, low, high)
		expectTrue(t, "the second step succeeds", ok)
		once, ok := impl.JoinMark(s, last, low, high)
		expectTrue(t, "one step succeeds", ok)
		expectJoin(t, "JoinMark in two steps", second, once)
		expectJoin(t, "JoinMark", once, join(last, needed(s.Left, last, false, low, high), needed(s.Right, last, true, low, high)))
		kept += len(once.Left) + len(once.Right)
		removed += len(s.Left) + len(s.Right) - len(once.Left) - len(once.Right)
	}
	expectTrue(t, "events are kept and removed", kept > rounds && removed > rounds)
}

func TestJoinMarkAtLimits(t *testing.T) {
	e := []impl.Event{ev(100, 1, 1)}
	s := join(-1, e, e)
	for _, c := range []struct {
		mark, low, high int
		left, right     bool
	}{
		{109, -20, 10, true, true}, {110, -20, 10, false, true}, {119, -20, 10, false, true}, {120, -20, 10, false, false},
		{99, 0, 0, true, true}, {100, 0, 0, false, false},
		{94, 5, 10, true, true}, {95, 5, 10, true, false}, {109, 5, 10, true, false}, {110, 5, 10, false, false},
		{89, -30, -10, true, true}, {90, -30, -10, false, true}, {129, -30, -10, false, true}, {130, -30, -10, false, false},
		{-1, impl.MaxTime, impl.MaxTime, true, false}, {-1, -impl.MaxTime, -impl.MaxTime, false, true},
		{100 + impl.MaxTime - 1, -impl.MaxTime, impl.MaxTime, true, true}, {100 + impl.MaxTime, -impl.MaxTime, impl.MaxTime, false, false},
		{impl.MaxReach, -impl.MaxTime, impl.MaxTime, false, false},
	} {
		next, ok := impl.JoinMark(s, c.mark, c.low, c.high)
		expectTrue(t, "the watermark is handled", ok)
		expectIs(t, "Mark", next.Mark, c.mark)
		expect(t, "Left", next.Left, slices.Repeat(e, amount(c.left)))
		expect(t, "Right", next.Right, slices.Repeat(e, amount(c.right)))
	}
	same, ok := impl.JoinMark(join(impl.MaxReach, nil, nil), impl.MaxReach, 0, 0)
	expectTrue(t, "MaxReach can be told twice", ok)
	expectJoin(t, "JoinMark at MaxReach again", same, join(impl.MaxReach, nil, nil))
}

// amount is 1 for true and 0 for false.
func amount(ok bool) int {
	if ok {
		return 1
	}
	return 0
}

func TestJoinMarkOfInvalidArguments(t *testing.T) {
	for _, bad := range badJoins() {
		for _, mark := range []int{bad.Mark, max(-1, bad.Mark), impl.MaxReach} {
			next, ok := impl.JoinMark(bad, mark, -9, 9)
			expectNoJoin(t, "JoinMark in an invalid state", next, ok)
		}
	}
	list := []impl.Event{ev(900, 1, 1)}
	for _, s := range []impl.JoinState{join(0, nil, nil), join(7, list, list), join(impl.MaxReach, list, nil)} {
		for _, mark := range joined(badReaches(), []int{s.Mark - 1, -1}) {
			next, ok := impl.JoinMark(s, mark, -9, 9)
			expectNoJoin(t, "JoinMark of an invalid watermark", next, ok)
		}
		for _, x := range badIntervals() {
			next, ok := impl.JoinMark(s, s.Mark, x[0], x[1])
			expectNoJoin(t, "JoinMark with invalid bounds", next, ok)
		}
	}
}

// someSides returns a side for each of n events.
func someSides(r *rand.Rand, n int) []bool {
	sides := make([]bool, n)
	some := oneOf(r, 1, 2, 2, 2, 5, 9)
	for i := range sides {
		sides[i] = r.IntN(some) == 0
	}
	return sides
}

// bySide returns the events of the left side and those of the right one.
func bySide(list []impl.Event, sides []bool) ([]impl.Event, []impl.Event) {
	var left, right []impl.Event
	for i, e := range list {
		if sides[i] {
			right = append(right, e)
		} else {
			left = append(left, e)
		}
	}
	return left, right
}

// joinSlowly returns what JoinRun should for valid arguments, and the number of late events. Removed events never matter (P69), so all earlier ones are kept.
func joinSlowly(list []impl.Event, sides []bool, bound int, low int, high int) ([]impl.Pair, int) {
	var found []impl.Pair
	highest, late, mark := map[bool]int{}, map[int]bool{}, -1
	for i, e := range list {
		late[i] = e.Time <= mark
		for j, other := range list[:i] {
			l, r := other, e
			if !sides[i] {
				l, r = e, other
			}
			if sides[i] != sides[j] && !late[i] && !late[j] && are(l, r, low, high) {
				found = append(found, pair(l, r))
			}
		}
		highest[sides[i]] = max(highest[sides[i]], e.Time)
		mark = max(-1, min(highest[false], highest[true])-bound-1)
	}
	n := 0
	for _, yes := range late {
		n += amount(yes)
	}
	return found, n
}

func TestP71StreamsFindOnlyPairsOfTheBatch(t *testing.T) {
	r := source(118)
	var found, missed, late int
	for range rounds * 3 {
		list := someEvents(r, impl.MaxEvents)
		sides := someSides(r, len(list))
		bound := oneOf(r, 0, 1, between(r, 0, 30), between(r, 0, impl.MaxTime), impl.MaxTime)
		low, high := someInterval(r)
		run := impl.JoinRun(list, sides, bound, low, high)
		want, n := joinSlowly(list, sides, bound, low, high)
		expect(t, "JoinRun", run, want)
		left, right := bySide(list, sides)
		rest := impl.IntervalJoin(left, right, low, high)
		missed += len(rest) - len(run)
		for _, p := range run {
			i := slices.Index(rest, p)
			expectTrue(t, "a pair of JoinRun is one of IntervalJoin", i >= 0)
			rest = slices.Delete(rest, i, i+1)
		}
		found, late = found+len(run), late+n
	}
	expectTrue(t, "pairs are found and missed, and events are late", found > rounds && missed > rounds && late > rounds)
}

func TestP72WithoutLateEventsStreamsFindAllPairs(t *testing.T) {
	r := source(119)
	found := 0
	for range rounds * 2 {
		list := someEvents(r, impl.MaxEvents)
		sides := someSides(r, len(list))
		low, high := someInterval(r)
		left, right := bySide(list, sides)
		want := inAnyOrder(impl.IntervalJoin(left, right, low, high))
		expect(t, "JoinRun with a bound of MaxTime", inAnyOrder(impl.JoinRun(list, sides, impl.MaxTime, low, high)), want)
		list = impl.SortEvents(list)
		left, right = bySide(list, sides)
		want = inAnyOrder(impl.IntervalJoin(left, right, low, high))
		for _, bound := range []int{0, 1, between(r, 0, impl.MaxTime)} {
			expect(t, "JoinRun of sorted events", inAnyOrder(impl.JoinRun(list, sides, bound, low, high)), want)
		}
		found += len(want)
	}
	expectTrue(t, "there are some pairs", found > rounds)
}

func TestJoinRunAtLimits(t *testing.T) {
	a, b, c, d := ev(10, 1, 1), ev(20, 1, 2), ev(9, 1, 3), ev(10, 1, 4)
	list, sides := []impl.Event{a, b, c, d}, []bool{false, true, false, true}
	for _, x := range []struct {
		bound int
		want  []impl.Pair
	}{
		{0, []impl.Pair{pair(a, b), pair(a, d)}}, // the watermark is 9: the third event is late, but the last one is not
		{1, []impl.Pair{pair(a, b), pair(c, b), pair(a, d), pair(c, d)}},
		{impl.MaxTime, []impl.Pair{pair(a, b), pair(c, b), pair(a, d), pair(c, d)}},
	} {
		expect(t, "JoinRun", impl.JoinRun(list, sides, x.bound, -50, 50), x.want)
	}
	seen := []impl.Event{ev(5, 1, 1), ev(5, 1, 2), ev(4, 1, 3), ev(9, 2, 4), ev(9, 2, 5), ev(6, 1, 6)}
	expect(t, "JoinRun of late events", impl.JoinRun(seen, []bool{false, true, true, false, true, false}, 0, -9, 9), []impl.Pair{pair(seen[0], seen[1]), pair(seen[3], seen[4])})
	n := impl.MaxEvents
	same := slices.Repeat([]impl.Event{ev(impl.MaxTime, impl.MaxKey, impl.MaxValue)}, n)
	mixed := make([]bool, n)
	for i := range n / 2 {
		mixed[i] = true
	}
	expectIs(t, "the number of pairs of MaxEvents events", len(impl.JoinRun(same, mixed, 0, 0, 0)), n*n/4)
	for _, side := range []bool{false, true} {
		expectTrue(t, "there are no pairs of one side", len(impl.JoinRun(same, slices.Repeat([]bool{side}, n), 0, -9, 9)) == 0)
	}
	expectTrue(t, "there are no pairs without events", len(impl.JoinRun(nil, nil, 0, 0, 0)) == 0)
}

func TestJoinRunOfInvalidArguments(t *testing.T) {
	list, sides := []impl.Event{ev(5, 1, 1), ev(5, 1, 2)}, []bool{false, true}
	expectIs(t, "the number of pairs of valid arguments", len(impl.JoinRun(list, sides, 0, -9, 9)), 1)
	for _, bad := range badLists() {
		all := joined(bad, list)
		for _, x := range [][]impl.Event{bad, all} {
			expectTrue(t, "JoinRun of invalid events is nil", impl.JoinRun(x, someSides(source(120), len(x)), 0, -9, 9) == nil)
		}
	}
	for _, x := range [][]bool{nil, {false}, {false, true, true}} {
		expectTrue(t, "JoinRun without a side for each event is nil", impl.JoinRun(list, x, 0, -9, 9) == nil)
	}
	for _, bound := range joined(extremes, []int{-1, impl.MaxTime + 1}) {
		expectTrue(t, "JoinRun with an invalid bound is nil", impl.JoinRun(list, sides, bound, -9, 9) == nil)
	}
	for _, x := range badIntervals() {
		expectTrue(t, "JoinRun with invalid bounds is nil", impl.JoinRun(list, sides, 0, x[0], x[1]) == nil)
	}
}

func TestJoinsKeepArguments(t *testing.T) {
	r := source(121)
	bad := ev(-5, -5, -5)
	for range rounds * 2 {
		s := someJoin(r)
		left, right := guarded(s.Left, ev(77, 7, 77)), guarded(s.Right, ev(78, 8, 78))
		s.Left, s.Right = left.list, right.list
		low, high := someInterval(r)
		for i, e := range []impl.Event{eventOfJoin(r, s), eventOfJoin(r, s), ev(0, 0, 0)} {
			next, pairs, _ := impl.JoinEvent(s, e, i == 0, low, high)
			if i == 2 {
				next, _ = impl.JoinMark(s, between(r, s.Mark, impl.MaxReach), low, high)
			}
			kept := slices.Clone(next.Right)
			spoil(pairs, pair(bad, bad))
			spoil(next.Left, bad)
			expect(t, "Right after Left was overwritten", next.Right, kept)
			spoil(next.Right, bad)
		}
		spoil(impl.IntervalJoin(s.Left, s.Right, low, high), pair(bad, bad))
		left.check(t, "a function of a join")
		right.check(t, "a function of a join")
		list := guarded(someEvents(r, impl.MaxEvents), ev(77, 7, 77))
		sides := guarded(someSides(r, len(list.list)), true)
		spoil(impl.JoinRun(list.list, sides.list, 5, low, high), pair(bad, bad))
		list.check(t, "JoinRun")
		sides.check(t, "JoinRun")
	}
}
