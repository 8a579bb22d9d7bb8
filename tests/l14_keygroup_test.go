package tests

import (
	"slices"
	"testing"

	"loop.example/eventstreams/impl"
)

// badTasks returns numbers of subtasks that are not allowed.
func badTasks() []int {
	return joined(extremes, []int{-1, 0, impl.MaxTasks + 1, 1000})
}

// starts returns where the ranges of n subtasks begin, and where the last one ends.
func starts(n int) []int {
	return [][]int{
		1: {0, 16},
		2: {0, 8, 16},
		3: {0, 6, 11, 16},
		4: {0, 4, 8, 12, 16},
		5: {0, 4, 7, 10, 13, 16},
		6: {0, 3, 6, 8, 11, 14, 16},
		7: {0, 3, 5, 7, 10, 12, 14, 16},
		8: {0, 2, 4, 6, 8, 10, 12, 14, 16},
	}[n]
}

// ownerOf returns the subtask of n that has a group.
func ownerOf(group int, n int) int {
	task := 0
	for starts(n)[task+1] <= group {
		task++
	}
	return task
}

func TestP84EveryKeyHasAGroup(t *testing.T) {
	seen := map[int]bool{}
	for key := 0; key <= impl.MaxKey; key++ {
		group := impl.KeyGroup(key)
		expectTrue(t, "the group is in 0..Groups-1", group >= 0 && group < impl.Groups)
		expectTrue(t, "no other key has the group", !seen[group])
		seen[group] = true
	}
	for key, want := range []int{5, 0, 11, 6, 1, 12, 7, 2, 13, 8, 3, 14, 9, 4, 15, 10} {
		expectIs(t, "KeyGroup", impl.KeyGroup(key), want)
	}
}

func TestKeyGroupOfInvalidKeys(t *testing.T) {
	for _, key := range joined(extremes, []int{-1, -16, impl.MaxKey + 1, 1000}) {
		expectIs(t, "KeyGroup of an invalid key", impl.KeyGroup(key), -1)
	}
}

func TestP85RangesFollowEachOther(t *testing.T) {
	for n := 1; n <= impl.MaxTasks; n++ {
		end := 0
		for task := range n {
			low, high := impl.GroupRange(task, n)
			expectIs(t, "the begin of a range", low, end)
			expectTrue(t, "subtasks have nearly the same number of groups", high-low >= impl.Groups/n && (high-low-1)*n < impl.Groups)
			expect(t, "GroupRange", []int{low, high}, starts(n)[task:task+2])
			end = high
		}
		expectIs(t, "the end of the last range", end, impl.Groups)
	}
}

func TestGroupRangeOfInvalidArguments(t *testing.T) {
	refused := func(task int, n int) {
		t.Helper()
		low, high := impl.GroupRange(task, n)
		expect(t, "GroupRange of invalid arguments", []int{low, high}, []int{-1, -1})
	}
	for _, n := range badTasks() {
		for _, task := range joined(extremes, []int{-1, 0, 1, n - 1, n}) {
			refused(task, n)
		}
	}
	for n := 1; n <= impl.MaxTasks; n++ {
		for _, task := range joined(extremes, []int{-1, n, n + 1, impl.MaxTasks + 1}) {
			refused(task, n)
		}
	}
}

func TestP86GroupsBelongToRanges(t *testing.T) {
	for n := 1; n <= impl.MaxTasks; n++ {
		last := 0
		for group := range impl.Groups {
			task := impl.SubtaskOf(group, n)
			low, high := impl.GroupRange(task, n)
			expectTrue(t, "a group is in the range of its subtask", low <= group && group < high)
			expectTrue(t, "greater groups have no smaller subtask", task >= last)
			expectIs(t, "SubtaskOf", task, ownerOf(group, n))
			last = task
		}
		expectIs(t, "the subtask of the last group", last, n-1)
	}
}

func TestSubtaskOfInvalidArguments(t *testing.T) {
	for _, n := range badTasks() {
		for _, group := range joined(extremes, []int{-1, 0, impl.Groups - 1, impl.Groups}) {
			expectIs(t, "SubtaskOf with an invalid number of subtasks", impl.SubtaskOf(group, n), -1)
		}
	}
	for n := 1; n <= impl.MaxTasks; n++ {
		for _, group := range joined(extremes, []int{-1, impl.Groups, impl.Groups + 1, 1000}) {
			expectIs(t, "SubtaskOf of an invalid group", impl.SubtaskOf(group, n), -1)
		}
	}
}

func TestP87RescalingBackMovesTheSameGroups(t *testing.T) {
	for before := 1; before <= impl.MaxTasks; before++ {
		for after := 1; after <= impl.MaxTasks; after++ {
			var want []int
			for group := range impl.Groups {
				if ownerOf(group, before) != ownerOf(group, after) {
					want = append(want, group)
				}
			}
			moved := impl.MovedGroups(before, after)
			expect(t, "MovedGroups", moved, want)
			expect(t, "MovedGroups back", impl.MovedGroups(after, before), moved)
			expectIs(t, "whether groups move", len(moved) > 0, before != after)
		}
	}
	expect(t, "MovedGroups from 3 to 4", impl.MovedGroups(3, 4), []int{4, 5, 8, 9, 10, 12, 13, 14, 15})
}

func TestMovedGroupsOfInvalidArguments(t *testing.T) {
	for _, bad := range badTasks() {
		for _, n := range joined(badTasks(), []int{1, 5, impl.MaxTasks}) {
			expectTrue(t, "invalid numbers of subtasks move no groups", impl.MovedGroups(bad, n) == nil && impl.MovedGroups(n, bad) == nil)
		}
	}
}

func TestMovedGroupsAreFresh(t *testing.T) {
	first := impl.MovedGroups(1, 8)
	want := slices.Clone(first)
	spoil(first, -5)
	expect(t, "MovedGroups after the first result was overwritten", impl.MovedGroups(1, 8), want)
}
