package tests

import (
	"math/rand/v2"
	"slices"
	"testing"

	"loop.example/eventstreams/impl"
)

// input returns an input.
func input(mark int, seen int) impl.Input {
	return impl.Input{Mark: mark, Seen: seen}
}

// someInputs returns valid inputs.
func someInputs(r *rand.Rand) []impl.Input {
	mark, seen := oneOf(r, 2, 30, impl.MaxTime), oneOf(r, 3, 50, impl.MaxClock)
	list := make([]impl.Input, between(r, 1, impl.MaxParts))
	for i := range list {
		list[i] = input(between(r, -1, mark), between(r, 0, seen))
	}
	return list
}

// someClock returns a processing time, often a small one or one near a limit.
func someClock(r *rand.Rand) int {
	return oneOf(r, between(r, 0, 4), between(r, 0, 60), between(r, 0, impl.MaxClock), impl.MaxClock)
}

// someMark returns a watermark, often a small one or one at a limit.
func someMark(r *rand.Rand) int {
	return oneOf(r, -1, between(r, 0, 3), between(r, 0, 30), between(r, 0, impl.MaxTime), impl.MaxTime)
}

// badInputs returns lists of inputs that are invalid: by one input or by their number.
func badInputs() [][]impl.Input {
	lists := [][]impl.Input{nil, {}, make([]impl.Input, impl.MaxParts+1)}
	bad := []impl.Input{input(-2, 1), input(impl.MaxTime+1, 1), input(1, -1), input(1, impl.MaxClock+1)}
	for _, x := range extremes {
		bad = append(bad, input(x, 1), input(1, x))
	}
	for _, in := range bad {
		lists = append(lists, []impl.Input{in}, []impl.Input{in, input(5, 5)}, []impl.Input{input(5, 5), input(6, 6), input(7, 7), in})
	}
	return lists
}

// badClocks returns numbers that are no processing times.
func badClocks() []int {
	return append([]int{-1, -2, impl.MaxClock + 1}, extremes...)
}

// idleSlowly returns what IdleInputs should.
func idleSlowly(list []impl.Input, now int, idle int) []int {
	var numbers []int
	for i := range list {
		if list[i].Seen+idle < now {
			numbers = append(numbers, i)
		}
	}
	return numbers
}

// mergeSlowly returns what MergeMarks should.
func mergeSlowly(list []impl.Input, now int, idle int) int {
	var active, all []int
	for i, in := range list {
		all = append(all, in.Mark)
		if !slices.Contains(idleSlowly(list, now, idle), i) {
			active = append(active, in.Mark)
		}
	}
	if active == nil {
		return slices.Max(all)
	}
	return slices.Min(active)
}

func TestP22WaitingMakesIdle(t *testing.T) {
	r := source(40)
	found := 0
	for range rounds * 5 {
		list, now, idle := someInputs(r), someClock(r), someClock(r)
		numbers := impl.IdleInputs(list, now, idle)
		found += len(numbers)
		expect(t, "IdleInputs", numbers, idleSlowly(list, now, idle))
		later := impl.IdleInputs(list, between(r, now, impl.MaxClock), between(r, 0, idle))
		for _, i := range numbers {
			expectTrue(t, "an idle input is idle later and with a smaller limit", slices.Contains(later, i))
		}
	}
	expectTrue(t, "some inputs are idle", found > rounds)
}

func TestIdleInputsAtLimits(t *testing.T) {
	expectIs(t, "MaxClock", impl.MaxClock, 9999)
	list := []impl.Input{input(1, 0), input(1, 10), input(1, 11), input(1, impl.MaxClock)}
	expect(t, "IdleInputs just at the limit", impl.IdleInputs(list, 20, 10), []int{0})
	expect(t, "IdleInputs behind the limit", impl.IdleInputs(list, 21, 10), []int{0, 1})
	expect(t, "IdleInputs without a limit", impl.IdleInputs(list, 11, 0), []int{0, 1})
	expect(t, "IdleInputs at the last time", impl.IdleInputs(list, impl.MaxClock, impl.MaxClock-1), []int{0})
	expect(t, "IdleInputs with the greatest limit", impl.IdleInputs(list, impl.MaxClock, impl.MaxClock), nil)
	expect(t, "IdleInputs before they were seen", impl.IdleInputs(list, 0, 0), nil)
}

func TestP23MergedMarksAreMarksOfInputs(t *testing.T) {
	r := source(41)
	for range rounds * 5 {
		list, now, idle := someInputs(r), someClock(r), someClock(r)
		merged := impl.MergeMarks(list, now, idle)
		expectIs(t, "MergeMarks", merged, mergeSlowly(list, now, idle))
		var marks []int
		for _, in := range list {
			marks = append(marks, in.Mark)
		}
		expectTrue(t, "MergeMarks is the Mark of an input", slices.Contains(marks, merged))
		if len(impl.IdleInputs(list, now, idle)) == 0 {
			expectIs(t, "MergeMarks without idle inputs", merged, slices.Min(marks))
		}
	}
}

func TestMergeMarksOfIdleInputs(t *testing.T) {
	list := []impl.Input{input(10, 5), input(4, 30), input(7, 5), input(999, 40)}
	expectIs(t, "MergeMarks without idle inputs", impl.MergeMarks(list, 40, 100), 4)
	expectIs(t, "MergeMarks with two idle inputs", impl.MergeMarks(list, 40, 20), 4)
	expectIs(t, "MergeMarks with one active input", impl.MergeMarks(list, 40, 5), 999)
	expectIs(t, "MergeMarks with idle inputs only", impl.MergeMarks(list, 60, 5), 999)
	expectIs(t, "MergeMarks with idle inputs only, the greatest first", impl.MergeMarks(list[:3], 60, 5), 10)
	expectIs(t, "MergeMarks with the least active input last", impl.MergeMarks(list[:3], 35, 30), 4)
	expectIs(t, "MergeMarks of one idle input", impl.MergeMarks([]impl.Input{input(-1, 0)}, 9, 1), -1)
	expectIs(t, "MergeMarks of inputs that were seen later", impl.MergeMarks(list, 0, 0), 4)
}

func TestP24InputsNeverGoBack(t *testing.T) {
	r := source(42)
	for range rounds * 5 {
		list, mark, now := someInputs(r), someMark(r), someClock(r)
		i := between(r, 0, len(list)-1)
		updated, ok := impl.UpdateInput(list, i, mark, now)
		expectTrue(t, "a valid input can be updated", ok)
		want := slices.Clone(list)
		if mark > want[i].Mark {
			want[i].Mark = mark
		}
		if now > want[i].Seen {
			want[i].Seen = now
		}
		expect(t, "UpdateInput", updated, want)
		for k := range list {
			expectTrue(t, "no other Mark changes", k == i || updated[k] == list[k])
			expectTrue(t, "nothing becomes less", updated[k].Mark >= list[k].Mark && updated[k].Seen >= list[k].Seen)
		}
		twice, _ := impl.UpdateInput(updated, i, mark, now)
		expect(t, "UpdateInput twice", twice, updated)
	}
}

// expectNoUpdate fails the test if arguments of UpdateInput are accepted.
func expectNoUpdate(t *testing.T, list []impl.Input, i int, mark int, now int) {
	t.Helper()
	if got, ok := impl.UpdateInput(list, i, mark, now); got != nil || ok {
		t.Fatalf("UpdateInput(%v, %d, %d, %d) = %v, %v", list, i, mark, now, got, ok)
	}
}

func TestUpdateInputOfInvalidArguments(t *testing.T) {
	list := []impl.Input{input(5, 5), input(6, 6)}
	for _, i := range append(extremes, -1, 2, 4) {
		expectNoUpdate(t, list, i, 7, 7)
	}
	for _, mark := range append(extremes, -2, impl.MaxTime+1) {
		expectNoUpdate(t, list, 1, mark, 7)
	}
	for _, now := range badClocks() {
		expectNoUpdate(t, list, 1, 7, now)
	}
	for _, bad := range badInputs() {
		expectNoUpdate(t, bad, 0, 7, 7)
	}
	got, ok := impl.UpdateInput(list, 1, impl.MaxTime, impl.MaxClock)
	expectTrue(t, "numbers at the upper limits are allowed", ok)
	expect(t, "UpdateInput at the upper limits", got, []impl.Input{input(5, 5), input(impl.MaxTime, impl.MaxClock)})
	got, ok = impl.UpdateInput(list, 0, -1, 0)
	expectTrue(t, "numbers at the lower limits are allowed", ok)
	expect(t, "UpdateInput at the lower limits", got, list)
}

func TestP25TellingMoreDoesNotLowerTheWatermark(t *testing.T) {
	r := source(43)
	for range rounds * 5 {
		list, now := someInputs(r), someClock(r)
		updated, _ := impl.UpdateInput(list, between(r, 0, len(list)-1), someMark(r), now)
		before := impl.MergeMarks(list, now, impl.MaxClock)
		after := impl.MergeMarks(updated, now, impl.MaxClock)
		expectTrue(t, "MergeMarks does not become less", after >= before)
	}
	list, _ := impl.UpdateInput([]impl.Input{input(3, 0), input(8, 0)}, 0, 6, 0)
	expectIs(t, "MergeMarks after the slowest input has told more", impl.MergeMarks(list, 0, 0), 6)
}

func TestP26TheWatermarkNeverFalls(t *testing.T) {
	r := source(44)
	for range rounds * 5 {
		list, now, idle, old := someInputs(r), someClock(r), someClock(r), someMark(r)
		merged := impl.MergeMarks(list, now, idle)
		next := impl.NextMark(old, list, now, idle)
		expectIs(t, "NextMark", next, max(old, merged))
		expectTrue(t, "NextMark is at least both", next >= old && next >= merged)
		expectTrue(t, "NextMark is one of both", next == old || next == merged)
		expectIs(t, "NextMark of NextMark", impl.NextMark(next, list, now, idle), next)
	}
	list := []impl.Input{input(5, 0)}
	got := []int{impl.NextMark(-1, list, 0, 0), impl.NextMark(5, list, 0, 0), impl.NextMark(6, list, 0, 0), impl.NextMark(impl.MaxTime, list, 0, 0)}
	expect(t, "NextMark of some watermarks", got, []int{5, 5, 6, impl.MaxTime})
	for _, old := range append(extremes, -2, -3, impl.MaxTime+1) {
		expectIs(t, "NextMark of an invalid watermark", impl.NextMark(old, list, 0, 0), -2)
	}
}

func TestMarksOfInvalidInputs(t *testing.T) {
	list := []impl.Input{input(3, 0), input(4, 0)}
	for _, x := range badClocks() {
		for _, y := range []int{0, 5, impl.MaxClock, x} {
			expect(t, "IdleInputs at an invalid time", impl.IdleInputs(list, x, y), nil)
			expect(t, "IdleInputs with an invalid limit", impl.IdleInputs(list, y, x), nil)
			expectIs(t, "MergeMarks at an invalid time", impl.MergeMarks(list, x, y), -2)
			expectIs(t, "MergeMarks with an invalid limit", impl.MergeMarks(list, y, x), -2)
			expectIs(t, "NextMark at an invalid time", impl.NextMark(1, list, x, y), -2)
			expectIs(t, "NextMark with an invalid limit", impl.NextMark(1, list, y, x), -2)
		}
	}
	for _, bad := range badInputs() {
		expect(t, "IdleInputs of invalid inputs", impl.IdleInputs(bad, impl.MaxClock, 0), nil)
		for _, idle := range []int{0, impl.MaxClock} {
			expectIs(t, "MergeMarks of invalid inputs", impl.MergeMarks(bad, impl.MaxClock, idle), -2)
			expectIs(t, "NextMark of invalid inputs", impl.NextMark(1, bad, impl.MaxClock, idle), -2)
		}
	}
}

func TestInputsAtLimitsAreValid(t *testing.T) {
	list := []impl.Input{input(-1, 0), input(impl.MaxTime, impl.MaxClock), input(-1, impl.MaxClock), input(impl.MaxTime, 0)}
	expect(t, "IdleInputs at the limits", impl.IdleInputs(list, impl.MaxClock, 0), []int{0, 3})
	expectIs(t, "MergeMarks at the limits", impl.MergeMarks(list, impl.MaxClock, 0), -1)
	expectIs(t, "NextMark at the limits", impl.NextMark(-1, list, impl.MaxClock, impl.MaxClock), -1)
	_, ok := impl.UpdateInput(list, 3, impl.MaxTime, impl.MaxClock)
	expectTrue(t, "the last input at the limits can be updated", ok)
}

func TestInputsKeepArguments(t *testing.T) {
	r := source(45)
	for range rounds {
		g := guarded(someInputs(r), input(77, 77))
		updated, _ := impl.UpdateInput(g.list, between(r, 0, len(g.list)-1), someMark(r), someClock(r))
		spoil(updated, input(-5, -5))
		now, idle := someClock(r), someClock(r)
		spoil(impl.IdleInputs(g.list, now, idle), -5)
		impl.MergeMarks(g.list, now, idle)
		impl.NextMark(3, g.list, now, idle)
		g.check(t, "a function of inputs")
	}
}
