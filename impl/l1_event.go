package impl

import (
	"cmp"
	"slices"
)

// MaxTime is the largest time of an event.
const MaxTime = 999

// MaxKey is the largest key.
const MaxKey = 15

// MaxValue is the largest value of an event.
const MaxValue = 99

// MaxEvents is the largest number of events.
const MaxEvents = 40

// Event is an event with its event time.
type Event struct {
	Time  int
	Key   int
	Value int
}

// ValidEvent reports whether an event is valid.
func ValidEvent(e Event) bool {
	return inRange(e.Time, 0, MaxTime) && inRange(e.Key, 0, MaxKey) && inRange(e.Value, 0, MaxValue)
}

// CompareEvents compares two events.
func CompareEvents(a Event, b Event) int {
	return cmp.Or(
		cmp.Compare(a.Time, b.Time),
		cmp.Compare(a.Key, b.Key),
		cmp.Compare(a.Value, b.Value),
	)
}

// SortEvents returns events in order.
func SortEvents(list []Event) []Event {
	if !validEvents(list) {
		return nil
	}
	sorted := slices.Clone(list)
	slices.SortFunc(sorted, CompareEvents)
	return sorted
}

// MergeEvents returns all events of two sorted lists in order.
func MergeEvents(a []Event, b []Event) []Event {
	if !sortedEvents(a) || !sortedEvents(b) || len(a)+len(b) > MaxEvents {
		return nil
	}
	merged := make([]Event, 0, len(a)+len(b))
	for len(a) > 0 && len(b) > 0 {
		if CompareEvents(a[0], b[0]) <= 0 {
			merged, a = append(merged, a[0]), a[1:]
		} else {
			merged, b = append(merged, b[0]), b[1:]
		}
	}
	merged = append(merged, a...)
	return append(merged, b...)
}

// FilterEvents returns the events whose value is in a range.
func FilterEvents(list []Event, low int, high int) []Event {
	if !validEvents(list) {
		return nil
	}
	var kept []Event
	for _, e := range list {
		if inRange(e.Value, low, high) {
			kept = append(kept, e)
		}
	}
	return kept
}

// inRange reports whether a number is in low..high.
func inRange(x int, low int, high int) bool {
	return low <= x && x <= high
}

// allOf reports whether all elements of a list have a property.
func allOf[T any](list []T, has func(T) bool) bool {
	for _, x := range list {
		if !has(x) {
			return false
		}
	}
	return true
}

// ascending reports whether each element of a list is before the next one.
func ascending[T any](list []T, compare func(T, T) int) bool {
	for i := 1; i < len(list); i++ {
		if compare(list[i-1], list[i]) >= 0 {
			return false
		}
	}
	return true
}

// indicesOf returns the indices of the elements of a list that have a property.
func indicesOf[T any](list []T, has func(T) bool) []int {
	var indices []int
	for i, x := range list {
		if has(x) {
			indices = append(indices, i)
		}
	}
	return indices
}

// validEvents reports whether a list of events is valid, in any order.
func validEvents(list []Event) bool {
	return len(list) <= MaxEvents && allOf(list, ValidEvent)
}

// sortedEvents reports whether a list of events is valid and in order.
func sortedEvents(list []Event) bool {
	return validEvents(list) && slices.IsSortedFunc(list, CompareEvents)
}
