package tests

import (
	"math/rand/v2"
	"slices"
	"testing"

	"loop.example/eventstreams/impl"
)

// groupOf returns the key group of a valid key.
func groupOf(key int) int {
	return []int{5, 0, 11, 6, 1, 12, 7, 2, 13, 8, 3, 14, 9, 4, 15, 10}[key]
}

// keyOfPair returns the key of a pair.
func keyOfPair(pair impl.KeyValue) int {
	return pair.Key
}

// keyOfTimer returns the key of a timer.
func keyOfTimer(x impl.Timer) int {
	return x.Key
}

// splitSlowly returns the items of each of n subtasks, which are looked for one subtask after the other.
func splitSlowly[T any](list []T, n int, keyOf func(T) int) [][]T {
	parts := make([][]T, n)
	for task := range n {
		for _, x := range list {
			if ownerOf(groupOf(keyOf(x)), n) == task {
				parts[task] = append(parts[task], x)
			}
		}
	}
	return parts
}

// somePairs returns pairs that ascend by Key, none of which is of a removed key, in some calls with all keys.
func somePairs(r *rand.Rand) []impl.KeyValue {
	list := someRun(r, 0)
	for i := range list {
		list[i].Value = max(0, list[i].Value)
	}
	return list
}

// someParts returns 1..MaxTasks parts of some pairs, and the pairs. A part may have pairs of any subtask.
func someParts(r *rand.Rand) ([][]impl.KeyValue, []impl.KeyValue) {
	list := somePairs(r)
	parts := make([][]impl.KeyValue, between(r, 1, impl.MaxTasks))
	for _, pair := range list {
		task := r.IntN(len(parts))
		parts[task] = append(parts[task], pair)
	}
	return parts, list
}

// badPairLists returns pairs that cannot be divided: those that no store may have, and those with removed keys.
func badPairLists() [][]impl.KeyValue {
	return append(badRuns(), kvs(gone(0)), kvs(kv(0, 1), gone(1)), kvs(gone(0), kv(1, 1)), kvs(kv(1, 1), gone(5), kv(9, 9)), everyKey(impl.Gone))
}

// badParts returns parts that cannot be combined, each for one reason.
func badParts() [][][]impl.KeyValue {
	list := [][][]impl.KeyValue{
		nil, {}, make([][]impl.KeyValue, impl.MaxTasks+1), make([][]impl.KeyValue, 1000),
		{kvs(kv(3, 1)), kvs(kv(3, 1))}, {kvs(kv(3, 1)), kvs(kv(3, 2))}, {kvs(kv(1, 1), kv(3, 1)), nil, kvs(kv(3, 1), kv(4, 1))},
		{everyKey(1), everyKey(1)}, {kvs(kv(impl.MaxKey, 0)), nil, nil, nil, nil, nil, nil, everyKey(0)}, {kvs(kv(0, 5), kv(9, 5)), kvs(kv(1, 5)), kvs(kv(0, 5))},
	}
	for _, bad := range badPairLists() {
		list = append(list, [][]impl.KeyValue{bad}, [][]impl.KeyValue{bad, nil}, [][]impl.KeyValue{kvs(kv(10, 1)), nil, bad})
	}
	return list
}

// expectCombined fails the test if the parts cannot be combined, or not as expected.
func expectCombined(t *testing.T, what string, parts [][]impl.KeyValue, want []impl.KeyValue) {
	t.Helper()
	list, ok := impl.CombineState(parts)
	expectTrue(t, what+": the parts can be combined", ok)
	expect(t, what, list, want)
}

// expectRescaled fails the test if the parts cannot be rescaled. It returns the new ones.
func expectRescaled(t *testing.T, parts [][]impl.KeyValue, n int) [][]impl.KeyValue {
	t.Helper()
	next, ok := impl.RescaleState(parts, n)
	expectTrue(t, "parts can be rescaled", ok)
	expectIs(t, "the number of parts", len(next), n)
	return next
}

// expectInRanges fails the test if an item is not in the part with the range of its group.
func expectInRanges[T any](t *testing.T, parts [][]T, keyOf func(T) int) {
	t.Helper()
	for task, part := range parts {
		low, high := impl.GroupRange(task, len(parts))
		for _, x := range part {
			group := impl.KeyGroup(keyOf(x))
			expectTrue(t, "a group is in the range of its part", low <= group && group < high)
		}
	}
}

func TestP119EveryPairGoesToItsSubtask(t *testing.T) {
	r := source(186)
	for range rounds {
		list := somePairs(r)
		for n := 1; n <= impl.MaxTasks; n++ {
			parts := impl.SplitState(list, n)
			expectIs(t, "the number of parts", len(parts), n)
			expectInRanges(t, parts, keyOfPair)
			expectLists(t, "SplitState", parts, splitSlowly(list, n, keyOfPair))
			expectCombined(t, "CombineState of SplitState", parts, list)
		}
	}
}

func TestSplitStateAtLimits(t *testing.T) {
	for n := 1; n <= impl.MaxTasks; n++ {
		expectLists(t, "SplitState of no pairs", impl.SplitState(nil, n), make([][]impl.KeyValue, n))
		for _, value := range []int{0, impl.MaxState} {
			expectLists(t, "SplitState of all keys", impl.SplitState(everyKey(value), n), splitSlowly(everyKey(value), n, keyOfPair))
		}
	}
	expectLists(t, "SplitState for one subtask", impl.SplitState(everyKey(7), 1), [][]impl.KeyValue{everyKey(7)})
	expectLists(t, "SplitState for three subtasks", impl.SplitState(kvs(kv(0, 0), kv(1, 10), kv(2, 20), kv(7, 70), kv(14, 140), kv(15, impl.MaxState)), 3),
		[][]impl.KeyValue{kvs(kv(0, 0), kv(1, 10), kv(7, 70)), kvs(kv(15, impl.MaxState)), kvs(kv(2, 20), kv(14, 140))})
	expectLists(t, "SplitState for MaxTasks subtasks", impl.SplitState(everyKey(1), impl.MaxTasks), [][]impl.KeyValue{
		kvs(kv(1, 1), kv(4, 1)), kvs(kv(7, 1), kv(10, 1)), kvs(kv(0, 1), kv(13, 1)), kvs(kv(3, 1), kv(6, 1)),
		kvs(kv(9, 1), kv(12, 1)), kvs(kv(2, 1), kv(15, 1)), kvs(kv(5, 1), kv(8, 1)), kvs(kv(11, 1), kv(14, 1)),
	})
}

func TestSplitStateOfInvalidArguments(t *testing.T) {
	for _, n := range joined(badTasks(), []int{1, 2, impl.MaxTasks}) {
		for _, bad := range badPairLists() {
			expectTrue(t, "SplitState of invalid pairs is nil", impl.SplitState(bad, n) == nil)
		}
	}
	for _, n := range badTasks() {
		for _, list := range [][]impl.KeyValue{nil, kvs(kv(1, 1)), everyKey(5)} {
			expectTrue(t, "SplitState for an invalid number of subtasks is nil", impl.SplitState(list, n) == nil)
		}
	}
}

func TestP120PartsCanBeCombinedInAnyOrder(t *testing.T) {
	r := source(187)
	elsewhere := 0
	for range rounds * 3 {
		parts, want := someParts(r)
		expectCombined(t, "CombineState", parts, want)
		expectCombined(t, "CombineState in reverse order", reversed(parts), want)
		shuffled := slices.Clone(parts)
		r.Shuffle(len(parts), func(i int, k int) { shuffled[i], shuffled[k] = shuffled[k], shuffled[i] })
		expectCombined(t, "CombineState in another order", shuffled, want)
		list, _ := impl.CombineState(parts)
		for i := 1; i < len(list); i++ {
			expectTrue(t, "keys ascend", list[i-1].Key < list[i].Key)
		}
		elsewhere += amount(!slices.EqualFunc(parts, splitSlowly(want, len(parts), keyOfPair), slices.Equal))
	}
	expectTrue(t, "parts have pairs of other subtasks", elsewhere > 100)
}

func TestCombineStateAtLimits(t *testing.T) {
	for n := 1; n <= impl.MaxTasks; n++ {
		expectCombined(t, "CombineState of empty parts", make([][]impl.KeyValue, n), nil)
		for task := range n {
			parts := make([][]impl.KeyValue, n)
			parts[task] = everyKey(impl.MaxState)
			expectCombined(t, "CombineState of all keys in one part", parts, everyKey(impl.MaxState))
		}
	}
	expectCombined(t, "CombineState of one pair each", [][]impl.KeyValue{kvs(kv(15, 0)), kvs(kv(0, 1)), kvs(kv(7, 2)), kvs(kv(6, 3)), kvs(kv(8, 4)), kvs(kv(1, 5)), kvs(kv(14, 6)), kvs(kv(2, 7))},
		kvs(kv(0, 1), kv(1, 5), kv(2, 7), kv(6, 3), kv(7, 2), kv(8, 4), kv(14, 6), kv(15, 0)))
}

func TestCombineStateOfInvalidArguments(t *testing.T) {
	for _, bad := range badParts() {
		list, ok := impl.CombineState(bad)
		expectTrue(t, "invalid parts cannot be combined", list == nil && !ok)
		list, ok = impl.CombineState(reversed(bad))
		expectTrue(t, "invalid parts in reverse order cannot be combined", list == nil && !ok)
	}
	r := source(188)
	for range rounds {
		parts, list := someParts(r)
		if len(list) == 0 || len(parts) == 1 {
			continue
		}
		twice := list[r.IntN(len(list))]
		task := r.IntN(len(parts))
		if slices.Contains(parts[task], twice) {
			continue
		}
		twice.Value = oneOf(r, twice.Value, 0, impl.MaxState)
		parts[task] = withPair(parts[task], twice)
		list, ok := impl.CombineState(parts)
		expectTrue(t, "a key may not be in two parts", list == nil && !ok)
	}
}

func TestP121RescalingLosesNoKey(t *testing.T) {
	r := source(189)
	for range rounds {
		parts, list := someParts(r)
		for n := 1; n <= impl.MaxTasks; n++ {
			next := expectRescaled(t, parts, n)
			expectLists(t, "RescaleState", next, splitSlowly(list, n, keyOfPair))
			expectCombined(t, "CombineState of RescaleState", next, list)
			expectLists(t, "rescaling in two steps", expectRescaled(t, expectRescaled(t, parts, between(r, 1, impl.MaxTasks)), n), next)
		}
	}
}

func TestRescaleStateOfInvalidArguments(t *testing.T) {
	for _, n := range joined(badTasks(), []int{1, 2, impl.MaxTasks}) {
		for _, bad := range badParts() {
			next, ok := impl.RescaleState(bad, n)
			expectTrue(t, "invalid parts cannot be rescaled", next == nil && !ok)
		}
	}
	for _, n := range badTasks() {
		for _, parts := range [][][]impl.KeyValue{{nil}, {kvs(kv(1, 1))}, {kvs(kv(1, 1)), kvs(kv(2, 1))}, {everyKey(0), nil}} {
			next, ok := impl.RescaleState(parts, n)
			expectTrue(t, "there is no such number of subtasks", next == nil && !ok)
		}
	}
}

// partOf returns the number of the part with a pair.
func partOf(parts [][]impl.KeyValue, pair impl.KeyValue) int {
	return slices.IndexFunc(parts, func(part []impl.KeyValue) bool { return slices.Contains(part, pair) })
}

func TestP122OnlyMovedGroupsMove(t *testing.T) {
	r := source(190)
	for n := 1; n <= impl.MaxTasks; n++ {
		for after := 1; after <= impl.MaxTasks; after++ {
			moved := impl.MovedGroups(n, after)
			for _, list := range [][]impl.KeyValue{everyKey(3), somePairs(r), somePairs(r), somePairs(r)} {
				parts := impl.SplitState(list, n)
				next := expectRescaled(t, parts, after)
				for _, pair := range list {
					moves := slices.Contains(moved, impl.KeyGroup(pair.Key))
					expectIs(t, "whether a pair moves", partOf(parts, pair) != partOf(next, pair), moves)
				}
			}
		}
	}
}

func TestP123TimersGoWithTheirKeys(t *testing.T) {
	r := source(191)
	for range rounds {
		list := someTimers(r)
		for n := 1; n <= impl.MaxTasks; n++ {
			parts := impl.SplitTimers(list, n)
			expectIs(t, "the number of parts", len(parts), n)
			expectInRanges(t, parts, keyOfTimer)
			expectLists(t, "SplitTimers", parts, splitSlowly(list, n, keyOfTimer))
			var all []impl.Timer
			for _, part := range parts {
				for i, x := range part {
					expectTrue(t, "timers ascend", i == 0 || soonerTimer(part[i-1], x))
					all = withTimer(all, x)
				}
			}
			expect(t, "all timers of all parts", all, list)
		}
	}
}

func TestSplitTimersAtLimits(t *testing.T) {
	for n := 1; n <= impl.MaxTasks; n++ {
		expectLists(t, "SplitTimers of no timers", impl.SplitTimers(nil, n), make([][]impl.Timer, n))
		for _, list := range [][]impl.Timer{edgeTimers(), manyTimers(impl.MaxTimers)} {
			expectLists(t, "SplitTimers", impl.SplitTimers(list, n), splitSlowly(list, n, keyOfTimer))
		}
	}
	expectLists(t, "timers of one key stay together", impl.SplitTimers([]impl.Timer{tim(1, 4, 0), tim(2, 0, 5), tim(2, 4, 0), tim(2, 4, 1), tim(3, 0, 0)}, 3),
		[][]impl.Timer{{tim(1, 4, 0), tim(2, 0, 5), tim(2, 4, 0), tim(2, 4, 1), tim(3, 0, 0)}, nil, nil})
	expectLists(t, "timers of the last subtask", impl.SplitTimers([]impl.Timer{tim(1, 14, 9), tim(2, 1, 0), tim(2, 14, 3)}, impl.MaxTasks),
		[][]impl.Timer{{tim(2, 1, 0)}, nil, nil, nil, nil, nil, nil, {tim(1, 14, 9), tim(2, 14, 3)}})
}

func TestSplitTimersOfInvalidArguments(t *testing.T) {
	for _, n := range joined(badTasks(), []int{1, 2, impl.MaxTasks}) {
		for _, bad := range badTimerLists() {
			expectTrue(t, "SplitTimers of invalid timers is nil", impl.SplitTimers(bad, n) == nil)
		}
	}
	for _, n := range badTasks() {
		for _, list := range [][]impl.Timer{nil, {tim(1, 1, 1)}, edgeTimers()} {
			expectTrue(t, "SplitTimers for an invalid number of subtasks is nil", impl.SplitTimers(list, n) == nil)
		}
	}
}

func TestRescalingKeepsArguments(t *testing.T) {
	r := source(192)
	bad, late := kv(-5, -5), tim(-5, -5, -5)
	for range rounds {
		n := between(r, 1, impl.MaxTasks)
		before, pairs := someParts(r)
		parts, list, timers := guardedLists(before, bad), guarded(pairs, bad), guarded(someTimers(r), late)
		expectApart(t, "SplitState", impl.SplitState(list.list, n), bad)
		combined, _ := impl.CombineState(parts.lists)
		spoil(combined, bad)
		expectApart(t, "RescaleState", expectRescaled(t, parts.lists, n), bad)
		expectApart(t, "SplitTimers", impl.SplitTimers(timers.list, n), late)
		parts.check(t, "rescaling")
		list.check(t, "SplitState")
		timers.check(t, "SplitTimers")
	}
}
