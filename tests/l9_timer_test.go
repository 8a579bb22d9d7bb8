package tests

import (
	"math/rand/v2"
	"slices"
	"testing"

	"loop.example/eventstreams/impl"
)

// tim returns a timer.
func tim(time int, key int, name int) impl.Timer {
	return impl.Timer{Time: time, Key: key, Name: name}
}

// soonerTimer reports whether a timer is before another one.
func soonerTimer(a impl.Timer, b impl.Timer) bool {
	if a.Time != b.Time {
		return a.Time < b.Time
	}
	if a.Key != b.Key {
		return a.Key < b.Key
	}
	return a.Name < b.Name
}

// someTimer returns a valid timer, in some calls one of few.
func someTimer(r *rand.Rand) impl.Timer {
	if r.IntN(2) == 0 {
		return tim(between(r, 0, 3), between(r, 0, 2), between(r, 0, 2))
	}
	return tim(between(r, 0, impl.MaxReach), between(r, 0, impl.MaxKey), between(r, 0, impl.MaxValue))
}

// withTimer returns timers with one more, as AddTimer should if there is room.
func withTimer(list []impl.Timer, t impl.Timer) []impl.Timer {
	i := 0
	for i < len(list) && soonerTimer(list[i], t) {
		i++
	}
	if i < len(list) && list[i] == t {
		return slices.Clone(list)
	}
	return slices.Insert(slices.Clone(list), i, t)
}

// someTimers returns valid timers, often MaxTimers.
func someTimers(r *rand.Rand) []impl.Timer {
	var list []impl.Timer
	for n := oneOf(r, 0, 1, 2, between(r, 0, impl.MaxTimers), impl.MaxTimers); len(list) < n; {
		list = withTimer(list, someTimer(r))
	}
	return list
}

// badTimers returns timers that are invalid, each for one reason.
func badTimers() []impl.Timer {
	var list []impl.Timer
	for _, x := range joined(extremes, []int{-1}) {
		list = append(list, tim(x, 1, 1), tim(1, x, 1), tim(1, 1, x))
	}
	return append(list, tim(impl.MaxReach+1, 1, 1), tim(1, impl.MaxKey+1, 1), tim(1, 1, impl.MaxValue+1))
}

// edgeTimers returns valid timers at the limits, in order.
func edgeTimers() []impl.Timer {
	var list []impl.Timer
	for _, time := range []int{0, impl.MaxReach} {
		for _, key := range []int{0, impl.MaxKey} {
			list = append(list, tim(time, key, 0), tim(time, key, impl.MaxValue))
		}
	}
	return list
}

// manyTimers returns n timers that are valid but for their number.
func manyTimers(n int) []impl.Timer {
	list := make([]impl.Timer, n)
	for i := range list {
		list[i] = tim(2*i, 5, 5)
	}
	return list
}

// badTimerLists returns lists of timers that are invalid: by their number, their order, or one timer.
func badTimerLists() [][]impl.Timer {
	lists := [][]impl.Timer{manyTimers(impl.MaxTimers + 1), manyTimers(500), reversed(manyTimers(2))}
	lists = append(lists, []impl.Timer{tim(5, 5, 5), tim(5, 5, 5)}, []impl.Timer{tim(5, 5, 5), tim(5, 5, 4)})
	lists = append(lists, []impl.Timer{tim(5, 5, 5), tim(5, 4, 9)}, []impl.Timer{tim(5, 5, 5), tim(4, 9, 9)})
	lists = append(lists, []impl.Timer{tim(1, 1, 1), tim(5, 5, 5), tim(9, 9, 9), tim(9, 9, 9)})
	for _, x := range badTimers() {
		lists = append(lists, []impl.Timer{x}, withTimer(edgeTimers(), x))
	}
	return lists
}

func TestP51TimersAreSets(t *testing.T) {
	r := source(90)
	var added, known, full int
	for range rounds * 5 {
		list, x := someTimers(r), someTimer(r)
		if len(list) > 0 && r.IntN(3) == 0 {
			x = list[r.IntN(len(list))]
		}
		got, ok := impl.AddTimer(list, x)
		switch there := slices.Contains(list, x); {
		case !there && len(list) == impl.MaxTimers:
			full++
			expectTrue(t, "there are no more than MaxTimers timers", !ok)
			expect(t, "AddTimer of one timer too many", got, list)
			continue
		case there:
			known++
			expect(t, "AddTimer of a timer that is there", got, list)
		default:
			added++
		}
		expectTrue(t, "a timer can be added", ok)
		expect(t, "AddTimer", got, withTimer(list, x))
		expectTrue(t, "the timer is among the timers", slices.Contains(got, x))
		again, ok := impl.AddTimer(got, x)
		expectTrue(t, "a timer can be added twice", ok)
		expect(t, "AddTimer twice", again, got)
	}
	expectTrue(t, "timers are added, known, and too many", added > 100 && known > 100 && full > 100)
}

func TestAddTimerAtLimits(t *testing.T) {
	expectIs(t, "MaxTimers", impl.MaxTimers, 20)
	var list []impl.Timer
	for _, x := range reversed(edgeTimers()) {
		more, ok := impl.AddTimer(list, x)
		expectTrue(t, "a timer at the limits can be added", ok)
		list = more
	}
	expect(t, "timers at the limits", list, edgeTimers())
	full, ok := impl.AddTimer(manyTimers(impl.MaxTimers)[1:], tim(0, 5, 5))
	expectTrue(t, "there can be MaxTimers timers", ok)
	expect(t, "AddTimer of the last timer", full, manyTimers(impl.MaxTimers))
	for _, x := range full {
		got, ok := impl.AddTimer(full, x)
		expectTrue(t, "a timer that is there can be added to MaxTimers timers", ok)
		expect(t, "AddTimer of a timer that is there", got, full)
	}
	for _, x := range []impl.Timer{tim(0, 0, 0), tim(3, 5, 5), tim(2, 5, 6), tim(impl.MaxReach, 1, 1)} {
		got, ok := impl.AddTimer(full, x)
		expectTrue(t, "there cannot be more than MaxTimers timers", !ok)
		expect(t, "AddTimer of one timer too many", got, full)
	}
}

func TestP52AddedTimersCanBeRemoved(t *testing.T) {
	r := source(91)
	for range rounds * 3 {
		list, x := someTimers(r), someTimer(r)
		if slices.Contains(list, x) || len(list) == impl.MaxTimers {
			continue
		}
		more, _ := impl.AddTimer(list, x)
		got, ok := impl.RemoveTimer(more, x)
		expectTrue(t, "an added timer was there", ok)
		expect(t, "RemoveTimer after AddTimer", got, list)
	}
}

func TestP53RemovedTimersAreGone(t *testing.T) {
	r := source(92)
	for range rounds * 3 {
		list := someTimers(r)
		for i, x := range list {
			got, ok := impl.RemoveTimer(list, x)
			expectTrue(t, "the timer was there", ok)
			expect(t, "RemoveTimer", got, slices.Delete(slices.Clone(list), i, i+1))
			again, ok := impl.RemoveTimer(got, x)
			expectTrue(t, "a removed timer is gone", !ok)
			expect(t, "RemoveTimer twice", again, got)
		}
		x := someTimer(r)
		got, ok := impl.RemoveTimer(list, x)
		expectIs(t, "whether a timer was there", ok, slices.Contains(list, x))
		expectTrue(t, "RemoveTimer changes nothing exactly if it fails", ok != slices.Equal(got, list))
	}
}

func TestRemoveTimerOfTimersThatAreNotThere(t *testing.T) {
	list := []impl.Timer{tim(5, 5, 5), tim(7, 7, 7)}
	for _, x := range joined(badTimers(), []impl.Timer{tim(5, 5, 4), tim(5, 5, 6), tim(5, 4, 5), tim(6, 5, 5), tim(9, 9, 9)}) {
		got, ok := impl.RemoveTimer(list, x)
		expectTrue(t, "the timer was not there", !ok)
		expect(t, "RemoveTimer of a timer that is not there", got, list)
		got, ok = impl.RemoveTimer(nil, x)
		expectTrue(t, "no timer was there", !ok && len(got) == 0)
	}
}

func TestP54TimersFireInOrderAndOnce(t *testing.T) {
	r := source(93)
	both := 0
	for range rounds * 3 {
		list := someTimers(r)
		now := oneOf(r, between(r, -1, 4), between(r, -1, impl.MaxReach+1))
		due, others := impl.FireTimers(list, now)
		expect(t, "the timers of FireTimers", joined(due, others), list)
		for _, x := range due {
			expectTrue(t, "a timer that fires is due", x.Time <= now)
		}
		for _, x := range others {
			expectTrue(t, "a timer that does not fire is not due", x.Time > now)
		}
		again, left := impl.FireTimers(others, now)
		expectTrue(t, "timers fire once", len(again) == 0)
		expect(t, "FireTimers of the others", left, others)
		if len(due) > 0 && len(others) > 0 {
			both++
		}
	}
	expectTrue(t, "some timers fire, others do not", both > 100)
}

func TestFireTimersAtLimits(t *testing.T) {
	list := edgeTimers()
	for _, c := range [][2]int{{-1, 0}, {0, 4}, {impl.MaxReach - 1, 4}, {impl.MaxReach, 8}, {impl.MaxReach + 1, 8}, {extremes[0], 0}, {extremes[3], 8}} {
		due, others := impl.FireTimers(list, c[0])
		expect(t, "the timers that fire", due, list[:c[1]])
		expect(t, "the timers that do not fire", others, list[c[1]:])
	}
	due, others := impl.FireTimers(nil, 5)
	expectTrue(t, "no timers are divided into none", len(due) == 0 && len(others) == 0)
}

func TestP55TheNextTimerIsTheFirstToFire(t *testing.T) {
	r := source(94)
	none := 0
	for range rounds * 3 {
		list, key := someTimers(r), between(r, 0, 4)
		ofKey := func(x impl.Timer) bool { return x.Key == key }
		next := impl.NextTimer(list, key)
		if next == -1 {
			none++
			expectTrue(t, "without a next timer there is none of the key", !slices.ContainsFunc(list, ofKey))
			continue
		}
		due, _ := impl.FireTimers(list, next)
		expectTrue(t, "a timer of the key fires", slices.ContainsFunc(due, ofKey))
		due, _ = impl.FireTimers(list, next-1)
		expectTrue(t, "no timer of the key fires earlier", !slices.ContainsFunc(due, ofKey))
	}
	expectTrue(t, "some keys have no timer, most have one", none > 100 && none < rounds*2)
}

func TestNextTimerAtLimits(t *testing.T) {
	list := []impl.Timer{tim(0, 3, 9), tim(4, 0, 5), tim(4, impl.MaxKey, 5), tim(9, 3, 0), tim(impl.MaxReach, 7, 0)}
	for _, c := range [][2]int{{3, 0}, {0, 4}, {impl.MaxKey, 4}, {7, impl.MaxReach}, {1, -1}, {-1, -1}, {impl.MaxKey + 1, -1}, {extremes[0], -1}, {extremes[3], -1}} {
		expectIs(t, "NextTimer", impl.NextTimer(list, c[0]), c[1])
		expectIs(t, "NextTimer of no timers", impl.NextTimer(nil, c[0]), -1)
	}
}

func TestFunctionsOfInvalidTimers(t *testing.T) {
	for _, bad := range badTimerLists() {
		for _, x := range []impl.Timer{bad[0], bad[len(bad)-1], tim(5, 5, 5), tim(9, 1, 1)} {
			got, ok := impl.AddTimer(bad, x)
			expectTrue(t, "nothing is added to invalid timers", got == nil && !ok)
			got, ok = impl.RemoveTimer(bad, x)
			expectTrue(t, "nothing is removed from invalid timers", got == nil && !ok)
			expectIs(t, "NextTimer of invalid timers", impl.NextTimer(bad, x.Key), -1)
		}
		for _, now := range joined(extremes, []int{-1, 0, 5, impl.MaxReach}) {
			due, others := impl.FireTimers(bad, now)
			expectTrue(t, "invalid timers are not divided", due == nil && others == nil)
		}
	}
	for _, x := range badTimers() {
		for _, list := range [][]impl.Timer{nil, edgeTimers(), manyTimers(impl.MaxTimers)} {
			got, ok := impl.AddTimer(list, x)
			expectTrue(t, "an invalid timer is not added", got == nil && !ok)
		}
	}
}

func TestTimersKeepArguments(t *testing.T) {
	r := source(95)
	bad := tim(-5, -5, -5)
	for range rounds * 2 {
		g := guarded(someTimers(r), tim(77, 7, 77))
		x := someTimer(r)
		if len(g.list) > 0 && r.IntN(2) == 0 {
			x = g.list[r.IntN(len(g.list))]
		}
		list, _ := impl.AddTimer(g.list, x)
		spoil(list, bad)
		list, _ = impl.RemoveTimer(g.list, x)
		spoil(list, bad)
		due, others := impl.FireTimers(g.list, oneOf(r, -1, 1, 2, 1500, impl.MaxReach))
		kept := slices.Clone(others)
		spoil(due, bad)
		expect(t, "the other timers after those that fire were overwritten", others, kept)
		spoil(others, bad)
		g.check(t, "a function of timers")
	}
}
