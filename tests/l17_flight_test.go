package tests

import (
	"math/rand/v2"
	"slices"
	"testing"

	"loop.example/eventstreams/impl"
)

// someQueue returns up to most valid items, often exactly so many, with a few barriers of few numbers.
func someQueue(r *rand.Rand, most int) []impl.Item {
	list := someItems(r, min(most, oneOf(r, 0, 1, 3, between(r, 0, most), most)))
	often := oneOf(r, 1, 5, 30)
	for i, x := range list {
		if x.Kind == impl.ItemBarrier {
			list[i] = barrier(oneOf(r, 1, 2, impl.MaxCheckpoint))
			if r.IntN(often) > 0 {
				list[i] = data(i)
			}
		}
	}
	return list
}

// someQueues returns valid queues.
func someQueues(r *rand.Rand, most int) [][]impl.Item {
	queues := make([][]impl.Item, between(r, 1, impl.MaxParts))
	for i := range queues {
		queues[i] = someQueue(r, most)
	}
	return queues
}

// someID returns the number of a barrier that some queues have.
func someID(r *rand.Rand) int {
	return oneOf(r, 1, 2, impl.MaxCheckpoint)
}

// badQueues returns queues each of which are invalid for one reason.
func badQueues() [][][]impl.Item {
	long := slices.Repeat([]impl.Item{data(1)}, impl.MaxItems+1)
	list := [][][]impl.Item{nil, {}, make([][]impl.Item, impl.MaxParts+1), make([][]impl.Item, 1000), {long}, {nil, long}, {long, nil}, {{data(1)}, nil, nil, slices.Repeat(long, 20)}}
	list = append(list, [][]impl.Item{{data(1)}, {data(1)}, {data(1)}, {data(1)}, {data(1)}})
	for _, x := range badItems() {
		list = append(list, [][]impl.Item{{x}}, [][]impl.Item{{barrier(1), x}}, [][]impl.Item{nil, {x, data(1)}}, [][]impl.Item{{x}, {data(1)}, nil, {data(1)}})
	}
	return list
}

// badIDs returns numbers that no checkpoint has.
func badIDs() []int {
	return joined(extremes, []int{-1, 0, impl.MaxCheckpoint + 1, 1000})
}

// cutSlowly returns what is before the first barrier with a number in a queue, and what is behind it, and whether there is one.
func cutSlowly(queue []impl.Item, id int) ([]impl.Item, []impl.Item, bool) {
	var before, behind []impl.Item
	found := false
	for _, x := range queue {
		switch {
		case found:
			behind = append(behind, x)
		case x.Kind == impl.ItemBarrier && x.Number == id:
			found = true
		default:
			before = append(before, x)
		}
	}
	return before, behind, found
}

func TestP98WhatIsInFlightIsBeforeTheBarrier(t *testing.T) {
	r := source(160)
	var with, without, others int
	for range rounds * 2 {
		queues, id := someQueues(r, impl.MaxItems), someID(r)
		flight := impl.InFlight(queues, id)
		expectIs(t, "the number of lists", len(flight), len(queues))
		for i, queue := range queues {
			before, _, found := cutSlowly(queue, id)
			expectTrue(t, "the barrier is not in flight", !slices.Contains(flight[i], barrier(id)))
			expect(t, "what is in flight", flight[i], queue[:len(flight[i])])
			expect(t, "InFlight", flight[i], before)
			with, without = with+amount(found), without+amount(!found)
			others += len(before) - len(withoutBarriers(before))
		}
	}
	expectTrue(t, "there are queues with and without the barrier, and other barriers", with > rounds/2 && without > rounds/2 && others > rounds/2)
}

func TestP99BarriersCanOvertakeEverything(t *testing.T) {
	r := source(161)
	var with, without, none int
	for range rounds * 2 {
		queues, id := someQueues(r, oneOf(r, impl.MaxItems-1, impl.MaxItems)), someID(r)
		full := false
		for _, queue := range queues {
			_, _, found := cutSlowly(queue, id)
			full = full || !found && len(queue) == impl.MaxItems
			with, without = with+amount(found), without+amount(!found)
		}
		over := impl.Overtake(queues, id)
		if full {
			expectTrue(t, "a queue would be too long", over == nil)
			none++
			continue
		}
		expectIs(t, "the number of queues", len(over), len(queues))
		for _, queue := range over {
			expectIs(t, "the first item", queue[0], barrier(id))
		}
		expectLists(t, "what is in flight then", impl.InFlight(over, id), make([][]impl.Item, len(queues)))
		expectLists(t, "Overtake again", impl.Overtake(over, id), over)
	}
	expectTrue(t, "there are queues with and without the barrier, and too long ones", with > rounds/2 && without > rounds/2 && none > rounds/10)
}

func TestP100OvertakingKeepsTheOtherItems(t *testing.T) {
	r := source(162)
	var moved, again int
	for range rounds * 2 {
		queues, id := someQueues(r, impl.MaxItems-1), someID(r)
		over := impl.Overtake(queues, id)
		expectIs(t, "the number of queues", len(over), len(queues))
		for i, queue := range queues {
			before, behind, _ := cutSlowly(queue, id)
			expect(t, "a queue without its first item", over[i][1:], joined(before, behind))
			moved, again = moved+amount(len(before) > 0 && len(behind) > 0), again+amount(slices.Contains(behind, barrier(id)))
		}
	}
	expectTrue(t, "some barriers are between others, and some come twice", moved > rounds/2 && again > rounds/4)
}

func TestP101NothingIsLostInFlight(t *testing.T) {
	r := source(163)
	var with, without int
	for range rounds * 2 {
		queues, id := someQueues(r, impl.MaxItems), someID(r)
		flight := impl.InFlight(queues, id)
		back := impl.Resume(flight, queues, id)
		expectIs(t, "the number of queues", len(back), len(queues))
		for i, queue := range queues {
			before, behind, found := cutSlowly(queue, id)
			if found {
				expect(t, "a queue without the barrier", back[i], joined(before, behind))
			} else {
				expect(t, "a queue that had no barrier", back[i], flight[i])
			}
			with, without = with+amount(found), without+amount(!found)
		}
	}
	expectTrue(t, "there are queues with and without the barrier", with > rounds/2 && without > rounds/2)
}

func TestResumeOfAnyLists(t *testing.T) {
	r := source(164)
	var resumed, none int
	for range rounds * 2 {
		queues, id := someQueues(r, oneOf(r, 10, impl.MaxItems)), someID(r)
		var flight, want [][]impl.Item
		long := false
		for _, queue := range queues {
			list := someQueue(r, oneOf(r, 5, impl.MaxItems-10, impl.MaxItems))
			_, behind, _ := cutSlowly(queue, id)
			flight, want = append(flight, list), append(want, joined(list, behind))
			long = long || len(list)+len(behind) > impl.MaxItems
		}
		back := impl.Resume(flight, queues, id)
		if long {
			expectTrue(t, "a queue would be too long", back == nil)
		} else {
			expectLists(t, "Resume", back, want)
		}
		resumed, none = resumed+amount(!long), none+amount(long)
	}
	expectTrue(t, "queues are resumed, and some would be too long", resumed > rounds && none > rounds/10)
}

func TestFlightOfBarriers(t *testing.T) {
	for _, x := range []struct {
		queue  []impl.Item
		id     int
		flight []impl.Item
		over   []impl.Item
		back   []impl.Item
	}{
		{nil, 1, nil, []impl.Item{barrier(1)}, nil},
		{[]impl.Item{barrier(1)}, 1, nil, []impl.Item{barrier(1)}, nil},
		{[]impl.Item{barrier(1), data(2)}, 1, nil, []impl.Item{barrier(1), data(2)}, []impl.Item{data(2)}},
		{[]impl.Item{data(2), barrier(1)}, 1, []impl.Item{data(2)}, []impl.Item{barrier(1), data(2)}, []impl.Item{data(2)}},
		{[]impl.Item{data(1), watermark(1), barrier(2), data(3)}, 1, []impl.Item{data(1), watermark(1), barrier(2), data(3)}, []impl.Item{barrier(1), data(1), watermark(1), barrier(2), data(3)}, []impl.Item{data(1), watermark(1), barrier(2), data(3)}},
		{[]impl.Item{data(1), barrier(2), watermark(1), barrier(1), data(3), barrier(2)}, 1, []impl.Item{data(1), barrier(2), watermark(1)}, []impl.Item{barrier(1), data(1), barrier(2), watermark(1), data(3), barrier(2)}, []impl.Item{data(1), barrier(2), watermark(1), data(3), barrier(2)}},
		{[]impl.Item{data(1), barrier(1), data(2), barrier(1), data(3)}, 1, []impl.Item{data(1)}, []impl.Item{barrier(1), data(1), data(2), barrier(1), data(3)}, []impl.Item{data(1), data(2), barrier(1), data(3)}},
	} {
		queues := [][]impl.Item{{data(9), barrier(x.id)}, x.queue, nil}
		flight := impl.InFlight(queues, x.id)
		expectLists(t, "InFlight", flight, [][]impl.Item{{data(9)}, x.flight, nil})
		expectLists(t, "Overtake", impl.Overtake(queues, x.id), [][]impl.Item{{barrier(x.id), data(9)}, x.over, {barrier(x.id)}})
		expectLists(t, "Resume", impl.Resume(flight, queues, x.id), [][]impl.Item{{data(9)}, x.back, nil})
	}
}

func TestFlightAtLimits(t *testing.T) {
	n, id := impl.MaxItems, impl.MaxCheckpoint
	full := joined(edgeItems()[:5], slices.Repeat([]impl.Item{data(impl.MaxReach)}, n-5))
	with := joined(full[:n-1], []impl.Item{barrier(id)})
	over := joined([]impl.Item{barrier(id)}, full[:n-1])
	for parts := 1; parts <= impl.MaxParts; parts++ {
		all := slices.Repeat([][]impl.Item{full}, parts)
		expectLists(t, "InFlight of MaxItems items", impl.InFlight(all, id), all)
		expectTrue(t, "a barrier is one item too many", impl.Overtake(all, id) == nil)
		expectLists(t, "Resume with MaxItems items", impl.Resume(all, all, id), all)
		last := slices.Repeat([][]impl.Item{full[:n-1]}, parts)
		expectLists(t, "Overtake with room for the barrier", impl.Overtake(last, id), slices.Repeat([][]impl.Item{over}, parts))
		last[parts-1] = with
		expectLists(t, "InFlight before the last item", impl.InFlight(last, id), slices.Repeat([][]impl.Item{full[:n-1]}, parts))
		expectLists(t, "Overtake of the last item", impl.Overtake(last, id), slices.Repeat([][]impl.Item{over}, parts))
		last[parts-1] = full
		expectTrue(t, "one queue would be too long", impl.Overtake(last, id) == nil)
	}
	behind := []impl.Item{barrier(1), data(1), data(2)}
	for _, k := range []int{n - 2, n - 1, n} {
		back := impl.Resume([][]impl.Item{nil, full[:k]}, [][]impl.Item{behind, behind}, 1)
		if k > n-2 {
			expectTrue(t, "a queue with more than MaxItems items is refused", back == nil)
			continue
		}
		expectLists(t, "Resume of MaxItems items", back, [][]impl.Item{behind[1:], joined(full[:k], behind[1:])})
	}
	long := joined([]impl.Item{barrier(1)}, full[:n-1])
	expectLists(t, "Resume of what is behind the barrier", impl.Resume([][]impl.Item{full[:1]}, [][]impl.Item{long}, 1), [][]impl.Item{joined(full[:1], full[:n-1])})
	expectTrue(t, "one item more is refused", impl.Resume([][]impl.Item{full[:2]}, [][]impl.Item{long}, 1) == nil)
	expectLists(t, "Resume of a list with the barrier", impl.Resume([][]impl.Item{behind}, [][]impl.Item{behind}, 1), [][]impl.Item{{barrier(1), data(1), data(2), data(1), data(2)}})
}

func TestFlightOfInvalidArguments(t *testing.T) {
	for _, bad := range badQueues() {
		for _, id := range []int{1, 5, impl.MaxCheckpoint} {
			expectTrue(t, "nothing is in flight in invalid queues", impl.InFlight(bad, id) == nil)
			expectTrue(t, "nothing is overtaken in invalid queues", impl.Overtake(bad, id) == nil)
			good := make([][]impl.Item, len(bad))
			expectTrue(t, "invalid queues are not resumed", impl.Resume(good, bad, id) == nil)
			expectTrue(t, "invalid lists are not resumed", impl.Resume(bad, good, id) == nil)
			expectTrue(t, "invalid lists and queues are not resumed", impl.Resume(bad, bad, id) == nil)
		}
	}
	good := [][]impl.Item{{data(1), barrier(1), data(2)}, {barrier(impl.MaxCheckpoint)}}
	for _, id := range badIDs() {
		expectTrue(t, "there is nothing in flight for an invalid number", impl.InFlight(good, id) == nil && impl.InFlight(make([][]impl.Item, 2), id) == nil)
		expectTrue(t, "nothing is overtaken by an invalid number", impl.Overtake(good, id) == nil && impl.Overtake(make([][]impl.Item, 2), id) == nil)
		expectTrue(t, "nothing is resumed for an invalid number", impl.Resume(good, good, id) == nil && impl.Resume(good, make([][]impl.Item, 2), id) == nil)
	}
	for n := range impl.MaxParts + 2 {
		if n != len(good) {
			expectTrue(t, "there is one list for each queue", impl.Resume(make([][]impl.Item, n), good, 1) == nil && impl.Resume(good, make([][]impl.Item, n), 1) == nil)
		}
	}
}

func TestFlightKeepsArguments(t *testing.T) {
	r := source(165)
	bad := item(-5, -5)
	for range rounds {
		id := someID(r)
		queues := guardedLists(someQueues(r, impl.MaxItems-1), data(77))
		flight := guardedLists(impl.InFlight(queues.lists, id), barrier(77))
		for _, got := range [][][]impl.Item{impl.InFlight(queues.lists, id), impl.Overtake(queues.lists, id), impl.Resume(flight.lists, queues.lists, id)} {
			expectApart(t, "a function of items in flight", got, bad)
			spoil(got, []impl.Item{bad})
			queues.check(t, "a function of items in flight")
			flight.check(t, "a function of items in flight")
		}
	}
}
