package tests

import (
	"math"
	"math/rand/v2"
	"slices"
	"testing"

	"loop.example/eventstreams/impl"
)

// rounds is how often a test with made-up arguments is repeated.
const rounds = 400

// source returns numbers that are the same in every run.
func source(seed uint64) *rand.Rand {
	return rand.New(rand.NewPCG(seed, 2026))
}

// between returns a number in low..high.
func between(r *rand.Rand, low int, high int) int {
	return low + r.IntN(high-low+1)
}

// oneOf returns one of some numbers.
func oneOf(r *rand.Rand, n ...int) int {
	return n[r.IntN(len(n))]
}

// ev returns an event.
func ev(time int, key int, value int) impl.Event {
	return impl.Event{Time: time, Key: key, Value: value}
}

// events returns n valid events: in some calls from few different ones, in others from all.
func events(r *rand.Rand, n int) []impl.Event {
	time, key, value := oneOf(r, 1, 9, 60, impl.MaxTime), oneOf(r, 0, 2, impl.MaxKey), oneOf(r, 1, 9, impl.MaxValue)
	list := make([]impl.Event, n)
	for i := range list {
		list[i] = ev(between(r, 0, time), between(r, 0, key), between(r, 0, value))
	}
	return list
}

// someEvents returns up to most valid events, often exactly so many.
func someEvents(r *rand.Rand, most int) []impl.Event {
	return events(r, min(most, oneOf(r, 0, 1, 2, between(r, 0, most), most)))
}

// badEvents returns events each of which is invalid for one reason.
func badEvents() []impl.Event {
	var list []impl.Event
	for _, x := range []int{-1, math.MinInt, math.MaxInt} {
		list = append(list, ev(x, 1, 1), ev(1, x, 1), ev(1, 1, x))
	}
	return append(list, ev(impl.MaxTime+1, 1, 1), ev(1, impl.MaxKey+1, 1), ev(1, 1, impl.MaxValue+1))
}

// edgeEvents returns valid events with numbers at the limits.
func edgeEvents() []impl.Event {
	var list []impl.Event
	for _, time := range []int{0, impl.MaxTime} {
		for _, key := range []int{0, impl.MaxKey} {
			for _, value := range []int{0, impl.MaxValue} {
				list = append(list, ev(time, key, value))
			}
		}
	}
	return list
}

// badLists returns lists of events that are invalid: by one event, wherever it is, or by their number.
func badLists() [][]impl.Event {
	lists := [][]impl.Event{make([]impl.Event, impl.MaxEvents+1), make([]impl.Event, 1000)}
	for _, e := range badEvents() {
		lists = append(lists, []impl.Event{e}, []impl.Event{e, ev(5, 5, 5)}, []impl.Event{ev(0, 0, 0), e})
	}
	return lists
}

// reversed returns a list in reverse order.
func reversed[T any](list []T) []T {
	out := slices.Clone(list)
	slices.Reverse(out)
	return out
}

// joined returns all elements of two lists in new memory.
func joined[T any](a []T, b []T) []T {
	return slices.Concat(a, b)
}

// ordered returns events in the order of the document, by insertion.
func ordered(list []impl.Event) []impl.Event {
	var out []impl.Event
	for _, e := range list {
		i := 0
		for i < len(out) && !ahead(e, out[i]) {
			i++
		}
		out = slices.Insert(out, i, e)
	}
	return out
}

// ahead reports whether an event is before another one.
func ahead(a impl.Event, b impl.Event) bool {
	if a.Time != b.Time {
		return a.Time < b.Time
	}
	if a.Key != b.Key {
		return a.Key < b.Key
	}
	return a.Value < b.Value
}

// expect fails the test if a list is not as expected.
func expect[T comparable](t *testing.T, what string, got []T, want []T) {
	t.Helper()
	if !slices.Equal(got, want) {
		t.Fatalf("%s = %v, not %v", what, got, want)
	}
}

// expectIs fails the test if a value is not as expected.
func expectIs[T comparable](t *testing.T, what string, got T, want T) {
	t.Helper()
	if got != want {
		t.Fatalf("%s = %v, not %v", what, got, want)
	}
}

// expectTrue fails the test if a condition does not hold.
func expectTrue(t *testing.T, what string, ok bool) {
	t.Helper()
	if !ok {
		t.Fatalf("not so: %s", what)
	}
}

// guard is a list with spare capacity whose memory is compared with a copy.
type guard[T comparable] struct {
	list  []T
	whole []T
}

// guarded returns a guard for a copy of a list, with some more elements behind its end.
func guarded[T comparable](list []T, more T) guard[T] {
	memory := append(slices.Clone(list), more, more, more)
	return guard[T]{list: memory[:len(list)], whole: slices.Clone(memory)}
}

// check fails the test if the list or its spare capacity has changed.
func (g guard[T]) check(t *testing.T, what string) {
	t.Helper()
	if !slices.Equal(g.list[:len(g.whole)], g.whole) {
		t.Fatalf("%s: an argument became %v, not %v", what, g.list[:len(g.whole)], g.whole)
	}
}

// spoil overwrites a list and its spare capacity.
func spoil[T any](list []T, with T) {
	list = list[:cap(list)]
	for i := range list {
		list[i] = with
	}
}

// expectLists fails the test if lists are not as expected.
func expectLists[T comparable](t *testing.T, what string, got [][]T, want [][]T) {
	t.Helper()
	if !slices.EqualFunc(got, want, slices.Equal) {
		t.Fatalf("%s = %v, not %v", what, got, want)
	}
}

// expectApart fails the test if two lists share memory. It overwrites them.
func expectApart[T comparable](t *testing.T, what string, lists [][]T, with T) {
	t.Helper()
	for i := range lists {
		before := make([][]T, len(lists))
		for k, list := range lists {
			before[k] = slices.Clone(list[:cap(list)])
		}
		spoil(lists[i], with)
		for k, list := range lists {
			if k != i && !slices.Equal(list[:cap(list)], before[k]) {
				t.Fatalf("%s: the lists %d and %d share memory", what, i, k)
			}
		}
	}
}

// guards is lists with spare capacity whose memory is compared with a copy.
type guards[T comparable] struct {
	lists [][]T
	each  []guard[T]
}

// guardedLists returns guards for copies of lists, with one more list behind their end.
func guardedLists[T comparable](lists [][]T, more T) guards[T] {
	var g guards[T]
	for _, list := range append(slices.Clone(lists), []T{more}) {
		g.each = append(g.each, guarded(list, more))
		g.lists = append(g.lists, g.each[len(g.each)-1].list)
	}
	g.lists = g.lists[:len(lists)]
	return g
}

// check fails the test if one of the lists, or what is behind them, has changed.
func (g guards[T]) check(t *testing.T, what string) {
	t.Helper()
	for i, list := range g.lists[:len(g.each)] {
		expectIs(t, what+": the length of a list that was an argument", len(list), len(g.each[i].list))
		expectTrue(t, what+": the lists of an argument stay in their places", &list[:1][0] == &g.each[i].list[:1][0])
		g.each[i].check(t, what)
	}
}

// extremes are numbers that no limit allows.
var extremes = []int{math.MinInt, math.MinInt + 1, math.MaxInt - 1, math.MaxInt}
