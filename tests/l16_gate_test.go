package tests

import (
	"math/rand/v2"
	"slices"
	"strconv"
	"testing"

	"loop.example/eventstreams/impl"
)

// line is an item of an input.
type line struct {
	input int
	item  impl.Item
}

// gate returns a gate. An input is blocked if its list of held items is not nil.
func gate(id int, held ...[]impl.Item) impl.Gate {
	g := impl.Gate{Barrier: id, Held: held}
	for _, list := range held {
		g.Blocked = append(g.Blocked, list != nil)
	}
	return g
}

// holding returns a list of held items, which is not nil.
func holding(items ...impl.Item) []impl.Item {
	return append([]impl.Item{}, items...)
}

// copyOfGate returns a gate in new memory.
func copyOfGate(g impl.Gate) impl.Gate {
	c := impl.Gate{Barrier: g.Barrier, Blocked: slices.Clone(g.Blocked)}
	for _, list := range g.Held {
		c.Held = append(c.Held, slices.Clone(list))
	}
	return c
}

// someMixed returns n valid items with few different barriers.
func someMixed(r *rand.Rand, n int) []impl.Item {
	list := someItems(r, n)
	for i, x := range list {
		if x.Kind == impl.ItemBarrier {
			list[i].Number = mostly(r, between(r, 1, 2), impl.MaxCheckpoint)
		}
	}
	return list
}

// someGate returns a valid gate, often with one open input, or with an input that holds as many items as it may.
func someGate(r *rand.Rand) impl.Gate {
	n := between(r, 1, impl.MaxParts)
	held := make([][]impl.Item, n)
	open, waits, often := r.IntN(n), false, oneOf(r, 1, 3, 10)
	for i := range held {
		if i != open && r.IntN(often) < 2 {
			held[i], waits = holding(someMixed(r, oneOf(r, 0, 1, between(r, 0, impl.MaxHeld), impl.MaxHeld))...), true
		}
	}
	if !waits {
		return gate(0, held...)
	}
	return gate(oneOf(r, 1, 2, impl.MaxCheckpoint), held...)
}

// lineFor returns an item of an input for a gate, often the barrier that the input waits for.
func lineFor(r *rand.Rand, g impl.Gate) line {
	open := slices.Index(g.Blocked, false)
	if r.IntN(3) == 0 {
		return line{open, barrier(max(g.Barrier, 1))}
	}
	return line{r.IntN(len(g.Blocked)), someMixed(r, 1)[0]}
}

// goodGate reports whether a gate is valid.
func goodGate(g impl.Gate) bool {
	if len(g.Blocked) < 1 || len(g.Blocked) > impl.MaxParts || len(g.Held) != len(g.Blocked) {
		return false
	}
	waiting := 0
	for i, list := range g.Held {
		waiting += amount(g.Blocked[i])
		if len(list) > impl.MaxHeld*amount(g.Blocked[i]) {
			return false
		}
		for _, x := range list {
			if !goodItem(x) {
				return false
			}
		}
	}
	if waiting == 0 {
		return g.Barrier == 0
	}
	return waiting < len(g.Blocked) && g.Barrier >= 1 && g.Barrier <= impl.MaxCheckpoint
}

// badGates returns gates each of which is invalid for one reason.
func badGates() []impl.Gate {
	list := []impl.Gate{
		{}, {Barrier: 1}, gate(0, nil, nil, nil, nil, nil), gate(1, holding(), nil, nil, nil, nil),
		{Blocked: []bool{false}}, {Held: [][]impl.Item{nil}}, {Blocked: []bool{false, false}, Held: [][]impl.Item{nil}}, {Blocked: []bool{false}, Held: [][]impl.Item{nil, nil}},
		{Barrier: 1, Blocked: []bool{true, false}, Held: [][]impl.Item{{data(1)}}}, {Barrier: 1, Blocked: []bool{true, false}, Held: [][]impl.Item{nil, nil, nil}},
		gate(1, holding()), gate(1, holding(), holding()), gate(1, holding(data(1)), holding(data(1)), holding(data(1)), holding(data(1))), gate(0, holding()),
		gate(1, nil), gate(1, nil, nil), gate(impl.MaxCheckpoint, nil, nil, nil, nil), gate(-1, nil), gate(impl.MaxCheckpoint+1, nil),
		gate(0, holding(), nil), gate(-1, holding(), nil), gate(impl.MaxCheckpoint+1, holding(), nil),
		{Blocked: []bool{false}, Held: [][]impl.Item{{data(1)}}}, {Barrier: 1, Blocked: []bool{true, false}, Held: [][]impl.Item{nil, {data(1)}}}, {Barrier: 1, Blocked: []bool{false, true}, Held: [][]impl.Item{{data(1)}, nil}},
		gate(1, nil, slices.Repeat(holding(data(1)), impl.MaxHeld+1)), gate(1, slices.Repeat(holding(data(1)), 500), nil),
		{Blocked: make([]bool, 1000), Held: make([][]impl.Item, 1000)},
	}
	for _, x := range extremes {
		list = append(list, gate(x, nil), gate(x, holding(), nil))
	}
	for _, x := range badItems() {
		list = append(list, gate(1, holding(x), nil), gate(1, nil, holding(data(1), x)), gate(1, holding(data(1)), nil, holding(x, data(1))))
	}
	return list
}

// gateSlowly handles items from a list. What is released comes to the front of the list.
func gateSlowly(before impl.Gate, work []line) (impl.Gate, []impl.Item, bool) {
	g := copyOfGate(before)
	var passed []impl.Item
	for len(work) > 0 {
		i, x := work[0].input, work[0].item
		work = work[1:]
		if g.Blocked[i] {
			g.Held[i] = append(g.Held[i], x)
			if len(g.Held[i]) > impl.MaxHeld {
				return impl.Gate{}, nil, false
			}
			continue
		}
		if x.Kind == impl.ItemBarrier {
			if g.Barrier != 0 && g.Barrier != x.Number {
				return impl.Gate{}, nil, false
			}
			g.Barrier, g.Blocked[i] = x.Number, true
			if slices.Contains(g.Blocked, false) {
				continue
			}
			var released []line
			for k, list := range g.Held {
				for _, y := range list {
					released = append(released, line{k, y})
				}
			}
			g = gate(0, make([][]impl.Item, len(g.Held))...)
			work = joined(released, work)
		}
		passed = append(passed, x)
	}
	return g, passed, true
}

// divide returns the inputs and the items of lines.
func divide(lines []line) ([]int, []impl.Item) {
	var inputs []int
	var items []impl.Item
	for _, l := range lines {
		inputs, items = append(inputs, l.input), append(items, l.item)
	}
	return inputs, items
}

// someFlow returns items of n inputs with the same barriers, which come at different times. Rarely one of the barriers is another one.
func someFlow(r *rand.Rand, n int) []line {
	ids := make([]int, impl.MaxItems)
	for i := range ids {
		ids[i] = oneOf(r, i+1, 1, between(r, 1, impl.MaxCheckpoint))
	}
	flow := make([]line, oneOf(r, 0, between(r, 0, impl.MaxItems), impl.MaxItems))
	next, often := make([]int, n), between(r, 2, 6)
	for i := range flow {
		k := r.IntN(n)
		if r.IntN(2) == 0 { // otherwise inputs would wait for too long
			k = slices.Index(next, slices.Min(next))
		}
		flow[i] = line{k, data(i)}
		if r.IntN(often) == 0 {
			flow[i].item = barrier(mostly(r, ids[next[k]], 77))
			next[k]++
		} else if r.IntN(3) == 0 {
			flow[i].item = watermark(i - 1)
		}
	}
	return flow
}

// withoutBarriers returns the items that are not barriers.
func withoutBarriers(list []impl.Item) []impl.Item {
	var others []impl.Item
	for _, x := range list {
		if x.Kind != impl.ItemBarrier {
			others = append(others, x)
		}
	}
	return others
}

// heldOf returns all held items of a gate that are not barriers.
func heldOf(g impl.Gate) []impl.Item {
	return withoutBarriers(slices.Concat(g.Held...))
}

// expectGate fails the test if a gate is not as expected.
func expectGate(t *testing.T, what string, got impl.Gate, want impl.Gate) {
	t.Helper()
	expectIs(t, what+", its barrier", got.Barrier, want.Barrier)
	expect(t, what+", its blocked inputs", got.Blocked, want.Blocked)
	expectLists(t, what+", its held items", got.Held, want.Held)
}

// expectNoGate fails the test if a result is not that for invalid arguments.
func expectNoGate(t *testing.T, what string, g impl.Gate, passed []impl.Item, ok bool) {
	t.Helper()
	expectTrue(t, what, !ok && len(passed) == 0)
	expectGate(t, what, g, impl.Gate{})
}

func TestGateNew(t *testing.T) {
	for n := 1; n <= impl.MaxParts; n++ {
		g := impl.GateNew(n)
		expectGate(t, "GateNew", g, gate(0, make([][]impl.Item, n)...))
		expectTrue(t, "a new gate is valid", goodGate(g))
	}
	for _, n := range joined(extremes, []int{-1, 0, impl.MaxParts + 1, 1000}) {
		expectGate(t, "GateNew of an invalid number", impl.GateNew(n), impl.Gate{})
	}
}

func TestP93OpenGatesLetEverythingPass(t *testing.T) {
	r := source(150)
	for n := 1; n <= impl.MaxParts; n++ {
		for _, x := range joined(edgeItems(), someItems(r, rounds)) {
			if x.Kind == impl.ItemBarrier {
				continue
			}
			for i := range n {
				g, passed, ok := impl.GateTake(impl.GateNew(n), i, x)
				expectTrue(t, "the item is handled", ok)
				expect(t, "what passes an open gate", passed, []impl.Item{x})
				expectGate(t, "an open gate afterwards", g, impl.GateNew(n))
			}
		}
	}
}

func TestP94NothingIsLostInAGate(t *testing.T) {
	r := source(151)
	var handled, barriers, released int
	for range rounds * 10 {
		before := someGate(r)
		l := lineFor(r, before)
		g, passed, ok := impl.GateTake(before, l.input, l.item)
		if !ok {
			expectNoGate(t, "the item is refused", g, passed, ok)
			continue
		}
		one := amount(l.item.Kind != impl.ItemBarrier)
		expectIs(t, "the number of items that are held or have passed", len(heldOf(g))+len(withoutBarriers(passed)), len(heldOf(before))+one)
		expectTrue(t, "at most one barrier passes", len(passed)-len(withoutBarriers(passed)) <= 1)
		handled, barriers, released = handled+one, barriers+1-one, released+amount(len(passed) > 1)
	}
	expectTrue(t, "items and barriers are handled, and items released", handled > rounds && barriers > rounds && released > rounds/4)
}

func TestP95BlockedInputsWait(t *testing.T) {
	r := source(152)
	var waiting, full int
	for range rounds * 10 {
		before, x := someGate(r), someMixed(r, 1)[0]
		for i := range before.Blocked {
			if !before.Blocked[i] {
				continue
			}
			g, passed, ok := impl.GateTake(before, i, x)
			expectIs(t, "whether there is room for the item", ok, len(before.Held[i]) < impl.MaxHeld)
			if !ok {
				expectNoGate(t, "the item is refused", g, passed, ok)
				full++
				continue
			}
			want := copyOfGate(before)
			want.Held[i] = append(want.Held[i], x)
			expectGate(t, "GateTake", g, want)
			expectTrue(t, "the item does not pass", len(passed) == 0)
			waiting++
		}
	}
	expectTrue(t, "items wait, and some find no room", waiting > rounds && full > rounds)
}

func TestGateTakeOfAnyGate(t *testing.T) {
	r := source(153)
	var ok, refused, again int
	for range rounds * 20 {
		before := someGate(r)
		expectTrue(t, "the gate is valid", goodGate(before))
		l := lineFor(r, before)
		want, passing, good := gateSlowly(before, []line{l})
		g, passed, done := impl.GateTake(before, l.input, l.item)
		expectIs(t, "whether the item is handled", done, good)
		expectGate(t, "GateTake", g, want)
		expect(t, "what passes", passed, passing)
		expectTrue(t, "the gate stays valid", !done || goodGate(g))
		ok, refused = ok+amount(good), refused+amount(!good && !before.Blocked[l.input])
		again += amount(len(passing) > 0 && l.item.Kind == impl.ItemBarrier && g.Barrier != 0)
	}
	expectTrue(t, "items are handled and refused, and inputs blocked again", ok > rounds && refused > rounds && again > rounds)
}

func TestGateTakeOfBarriers(t *testing.T) {
	for i, x := range []struct {
		before impl.Gate
		input  int
		item   impl.Item
		after  impl.Gate
		passed []impl.Item
		ok     bool
	}{
		{gate(0, nil), 0, barrier(7), gate(0, nil), []impl.Item{barrier(7)}, true},
		{gate(0, nil, nil), 1, barrier(7), gate(7, nil, holding()), nil, true},
		{gate(7, nil, holding()), 0, data(3), gate(7, nil, holding()), []impl.Item{data(3)}, true},
		{gate(7, nil, holding()), 0, watermark(-1), gate(7, nil, holding()), []impl.Item{watermark(-1)}, true},
		{gate(7, nil, holding()), 1, watermark(3), gate(7, nil, holding(watermark(3))), nil, true},
		{gate(7, nil, holding(data(1))), 1, barrier(9), gate(7, nil, holding(data(1), barrier(9))), nil, true},
		{gate(7, nil, holding(data(1))), 1, barrier(7), gate(7, nil, holding(data(1), barrier(7))), nil, true},
		{gate(7, nil, holding(data(1))), 0, barrier(9), impl.Gate{}, nil, false},
		{gate(7, nil, nil, holding(data(1))), 0, barrier(6), impl.Gate{}, nil, false},
		{gate(7, nil, holding()), 0, barrier(7), gate(0, nil, nil), []impl.Item{barrier(7)}, true},
		{gate(7, nil, nil, holding(data(1))), 0, barrier(7), gate(7, holding(), nil, holding(data(1))), nil, true},
		// The items that were held come by input.
		{gate(7, holding(data(3), data(1)), nil, holding(data(4), data(2))), 1, barrier(7), gate(0, nil, nil, nil), []impl.Item{barrier(7), data(3), data(1), data(4), data(2)}, true},
		// A barrier that was held blocks its input again; what was held behind it waits on.
		{gate(7, nil, holding(data(1), barrier(9), data(2), barrier(8), data(3))), 0, barrier(7), gate(9, nil, holding(data(2), barrier(8), data(3))), []impl.Item{barrier(7), data(1)}, true},
		{gate(7, holding(barrier(9), data(1)), nil, holding(data(2), barrier(9), data(3))), 1, barrier(7), gate(9, holding(data(1)), nil, holding(data(3))), []impl.Item{barrier(7), data(2)}, true},
		{gate(7, nil, holding(barrier(7), barrier(7))), 0, barrier(7), gate(7, nil, holding(barrier(7))), []impl.Item{barrier(7)}, true},
		// Barriers that were held may have different numbers, too.
		{gate(7, holding(barrier(8)), nil, holding(barrier(9))), 1, barrier(7), impl.Gate{}, nil, false},
		{gate(7, holding(data(1)), nil, holding(data(2), barrier(8)), holding(data(3), barrier(9))), 1, barrier(7), impl.Gate{}, nil, false},
		{gate(7, holding(barrier(8), barrier(9)), nil, holding(barrier(8))), 1, barrier(7), gate(8, holding(barrier(9)), nil, holding()), []impl.Item{barrier(7)}, true},
	} {
		g, passed, ok := impl.GateTake(x.before, x.input, x.item)
		expectIs(t, "whether the item is handled", ok, x.ok)
		expect(t, "what passes", passed, x.passed)
		expectGate(t, "the gate "+strconv.Itoa(i), g, x.after)
	}
}

func TestGateTakeAtLimits(t *testing.T) {
	full := slices.Repeat(holding(data(impl.MaxReach)), impl.MaxHeld)
	most := impl.MaxCheckpoint
	g, passed, ok := impl.GateTake(gate(most, full[:impl.MaxHeld-1], nil), 0, data(impl.MaxReach))
	expectTrue(t, "MaxHeld items may be held", ok && len(passed) == 0)
	expectGate(t, "a gate with MaxHeld items", g, gate(most, full, nil))
	for _, x := range edgeItems() {
		g, passed, ok = impl.GateTake(gate(most, full, nil), 0, x)
		expectNoGate(t, "no more items may be held", g, passed, ok)
	}
	g, passed, ok = impl.GateTake(gate(most, full, nil), 1, data(5))
	expectTrue(t, "the other input is open", ok)
	expect(t, "what passes", passed, []impl.Item{data(5)})
	expectGate(t, "the gate of an open input", g, gate(most, full, nil))
	g, passed, ok = impl.GateTake(gate(most, full, full, nil, full), 2, barrier(most))
	expectTrue(t, "the last barrier is handled", ok)
	expectIs(t, "the number of items that pass", len(passed), 1+3*impl.MaxHeld)
	expectGate(t, "the gate of four inputs", g, gate(0, nil, nil, nil, nil))
	again := joined(holding(barrier(1)), full[:impl.MaxHeld-1])
	g, passed, ok = impl.GateTake(gate(most, again, again, nil, again), 2, barrier(most))
	expectTrue(t, "the last barrier is handled", ok)
	expect(t, "what passes", passed, []impl.Item{barrier(most)})
	expectGate(t, "the gate of four inputs", g, gate(1, again[1:], again[1:], nil, again[1:]))
	for _, x := range edgeItems() {
		g, _, ok = impl.GateTake(gate(1, nil, holding()), 1, x)
		expectTrue(t, "an item with a number at a limit is handled", ok)
		expectGate(t, "the gate", g, gate(1, nil, holding(x)))
	}
}

func TestGateTakeOfInvalidArguments(t *testing.T) {
	for _, bad := range badGates() {
		expectTrue(t, "the gate is invalid", !goodGate(bad))
		for i := range 2 {
			for _, x := range []impl.Item{data(1), barrier(1)} {
				g, passed, ok := impl.GateTake(bad, i, x)
				expectNoGate(t, "an invalid gate takes no item", g, passed, ok)
			}
		}
	}
	for _, good := range []impl.Gate{gate(0, nil), gate(0, nil, nil), gate(1, holding(data(1)), nil), gate(1, nil, holding(), nil, holding())} {
		for _, i := range joined(extremes, []int{-1, len(good.Blocked), impl.MaxParts, 1000}) {
			for _, x := range []impl.Item{data(1), barrier(1)} {
				g, passed, ok := impl.GateTake(good, i, x)
				expectNoGate(t, "an input that is not there is refused", g, passed, ok)
			}
		}
		for i := range good.Blocked {
			for _, x := range badItems() {
				g, passed, ok := impl.GateTake(good, i, x)
				expectNoGate(t, "an invalid item is refused", g, passed, ok)
			}
		}
	}
}

func TestGateRunIsGateTake(t *testing.T) {
	r := source(154)
	var ok, refused, aligned, left int
	for range rounds * 5 {
		n := between(r, 1, impl.MaxParts)
		flow := someFlow(r, n)
		want, passing, good := gateSlowly(gate(0, make([][]impl.Item, n)...), flow)
		g, passed, done := impl.GateRun(n, first(divide(flow)), second(divide(flow)))
		expectIs(t, "whether all items are handled", done, good)
		expectGate(t, "GateRun", g, want)
		expect(t, "what passes", passed, passing)
		each, all := impl.GateNew(n), []impl.Item(nil)
		for _, l := range flow {
			var some []impl.Item
			if each, some, done = impl.GateTake(each, l.input, l.item); !done {
				break
			}
			all = append(all, some...)
		}
		if good {
			expectGate(t, "GateTake for all items", each, g)
			expect(t, "what passes one by one", all, passed)
		}
		ok, refused = ok+amount(good), refused+amount(!good)
		aligned, left = aligned+amount(len(passed)-len(withoutBarriers(passed)) > 1), left+amount(len(heldOf(g)) > 0)
	}
	expectTrue(t, "items are handled and refused, barriers pass, and items are left", ok > rounds && refused > rounds/4 && aligned > rounds && left > rounds/2)
}

// first returns the first one of two results.
func first[A any, B any](a A, _ B) A {
	return a
}

// second returns the second one of two results.
func second[A any, B any](_ A, b B) B {
	return b
}

// beforeBarrier returns the number of the items of an input before its barrier with an index, without barriers.
func beforeBarrier(flow []line, input int, index int) int {
	others := 0
	for _, l := range flow {
		switch {
		case l.input != input:
		case l.item.Kind != impl.ItemBarrier:
			others++
		case index == 0:
			return others
		default:
			index--
		}
	}
	return others
}

func TestP96BarriersCutAllInputsAtTheSamePlace(t *testing.T) {
	r := source(155)
	barriers := 0
	for range rounds * 5 {
		n := between(r, 1, impl.MaxParts)
		flow := someFlow(r, n)
		_, passed, _ := impl.GateRun(n, first(divide(flow)), second(divide(flow)))
		index, others := 0, 0
		for _, x := range passed {
			if x.Kind != impl.ItemBarrier {
				others++
				continue
			}
			want := 0
			for i := range n {
				want += beforeBarrier(flow, i, index)
			}
			expectIs(t, "the number of items before a barrier", others, want)
			index++
		}
		barriers += index
	}
	expectTrue(t, "barriers pass", barriers > rounds*2)
}

func TestP97GatesDoNotLookAhead(t *testing.T) {
	r := source(156)
	some := 0
	for range rounds {
		n := between(r, 1, impl.MaxParts)
		flow := someFlow(r, n)
		inputs, items := divide(flow)
		_, all, ok := impl.GateRun(n, inputs, items)
		if !ok {
			continue
		}
		for m := range len(items) + 1 {
			_, passed, ok := impl.GateRun(n, inputs[:m], items[:m])
			expectTrue(t, "the first items are handled", ok && len(passed) <= len(all))
			expect(t, "what passes for the first items", passed, all[:len(passed)])
			some += amount(len(passed) > 0 && len(passed) < m)
		}
	}
	expectTrue(t, "some items pass and some wait", some > rounds)
}

func TestGateRunAtLimits(t *testing.T) {
	list := slices.Repeat([]impl.Item{data(impl.MaxReach)}, impl.MaxItems+1)
	for n := 1; n <= impl.MaxParts; n++ {
		g, passed, ok := impl.GateRun(n, nil, nil)
		expectTrue(t, "no items are handled", ok && len(passed) == 0)
		expectGate(t, "GateRun of no items", g, impl.GateNew(n))
		inputs := slices.Repeat([]int{n - 1}, impl.MaxItems+1)
		g, passed, ok = impl.GateRun(n, inputs[:impl.MaxItems], list[:impl.MaxItems])
		expectTrue(t, "MaxItems items are handled", ok)
		expect(t, "what passes", passed, list[:impl.MaxItems])
		expectGate(t, "GateRun of MaxItems items", g, impl.GateNew(n))
		g, passed, ok = impl.GateRun(n, inputs, list)
		expectNoGate(t, "more than MaxItems items are refused", g, passed, ok)
	}
	inputs := slices.Repeat([]int{0}, impl.MaxHeld+2)
	held := joined([]impl.Item{barrier(impl.MaxCheckpoint)}, list[:impl.MaxHeld+1])
	g, passed, ok := impl.GateRun(2, inputs[:impl.MaxHeld+1], held[:impl.MaxHeld+1])
	expectTrue(t, "MaxHeld items are held", ok && len(passed) == 0)
	expectGate(t, "GateRun", g, gate(impl.MaxCheckpoint, list[:impl.MaxHeld], nil))
	g, passed, ok = impl.GateRun(2, inputs, held)
	expectNoGate(t, "one more is refused", g, passed, ok)
	single := []impl.Item{barrier(3), data(1), barrier(2), barrier(2)}
	g, passed, ok = impl.GateRun(1, make([]int, 4), single)
	expectTrue(t, "a single input never waits", ok)
	expect(t, "what passes a gate with one input", passed, single)
	expectGate(t, "a gate with one input", g, impl.GateNew(1))
}

func TestGateRunOfInvalidArguments(t *testing.T) {
	two := []impl.Item{data(1), data(2)}
	refused := func(what string, n int, inputs []int, items []impl.Item) {
		t.Helper()
		g, passed, ok := impl.GateRun(n, inputs, items)
		expectNoGate(t, what, g, passed, ok)
	}
	for _, n := range joined(extremes, []int{-1, 0, impl.MaxParts + 1, 1000}) {
		refused("an invalid number of inputs is refused", n, nil, nil)
		refused("an invalid number of inputs is refused", n, []int{0, 0}, two)
	}
	for _, inputs := range [][]int{nil, {0}, {0, 0, 0}, make([]int, impl.MaxItems)} {
		refused("there is one input for each item", 2, inputs, two)
	}
	refused("there is one input for each item", 2, []int{0}, nil)
	for _, i := range joined(extremes, []int{-1, 2, impl.MaxParts}) {
		refused("an input that is not there is refused", 2, []int{i, 0}, two)
		refused("an input that is not there is refused", 2, []int{0, i}, two)
	}
	for _, x := range badItems() {
		refused("an invalid item is refused", 2, []int{0}, []impl.Item{x})
		refused("an invalid item is refused", 2, []int{0, 1}, []impl.Item{data(1), x})
		refused("an invalid item is refused, though it would be held", 2, []int{0, 0}, []impl.Item{barrier(1), x})
	}
	refused("another barrier is refused", 2, []int{0, 1}, []impl.Item{barrier(1), barrier(2)})
	refused("another barrier is refused, even if it was held", 3, []int{0, 0, 1, 1, 2}, []impl.Item{barrier(1), barrier(2), barrier(1), barrier(3), barrier(1)})
	refused("all items are handled", 2, []int{0, 1, 1}, []impl.Item{barrier(1), barrier(2), data(1)})
}

func TestGatesKeepArguments(t *testing.T) {
	r := source(157)
	bad := item(-5, -5)
	for range rounds * 2 {
		before := someGate(r)
		blocked, held := guarded(before.Blocked, true), guardedLists(before.Held, data(77))
		g := impl.Gate{Barrier: before.Barrier, Blocked: blocked.list, Held: held.lists}
		for range 3 {
			l := lineFor(r, g)
			after, passed, _ := impl.GateTake(g, l.input, l.item)
			expectApart(t, "GateTake", append(after.Held, passed), bad)
			spoil(after.Blocked, true)
			spoil(after.Held, []impl.Item{bad})
			blocked.check(t, "GateTake")
			held.check(t, "GateTake")
			expectGate(t, "an argument", g, before)
		}
		n := between(r, 1, impl.MaxParts)
		flow := someFlow(r, n)
		inputs, items := guarded(first(divide(flow)), 0), guarded(second(divide(flow)), data(77))
		after, passed, _ := impl.GateRun(n, inputs.list, items.list)
		expectApart(t, "GateRun", append(after.Held, passed), bad)
		inputs.check(t, "GateRun")
		items.check(t, "GateRun")
	}
	g := impl.GateNew(impl.MaxParts)
	for i := range g.Held {
		g.Held[i] = append(g.Held[i], data(i))
	}
	expectLists(t, "what was appended", g.Held, [][]impl.Item{{data(0)}, {data(1)}, {data(2)}, {data(3)}})
}
