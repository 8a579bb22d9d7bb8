package tests

import (
	"math/rand/v2"
	"slices"
	"testing"

	"loop.example/eventstreams/impl"
)

// plan returns a plan.
func plan(size int, slide int, every int, lateness int) impl.Plan {
	return impl.Plan{Size: size, Slide: slide, Trigger: trig(every, lateness)}
}

// cell returns a cell of a window with a size.
func cell(start int, size int, key int, a impl.Acc) impl.Cell {
	return impl.Cell{Key: key, Window: win(start, start+size), Acc: a}
}

// state returns a state of windows.
func state(mark int, cells ...impl.Cell) impl.WindowState {
	return impl.WindowState{Mark: mark, Cells: cells}
}

// somePlan returns a valid plan, often one with short windows.
func somePlan(r *rand.Rand) impl.Plan {
	size := oneOf(r, 1, 5, 10, between(r, 1, 60), between(r, 1, impl.MaxTime))
	least := slidesOf(size)[0]
	slide := oneOf(r, least, between(r, least, size), size)
	return impl.Plan{Size: size, Slide: slide, Trigger: someTrigger(r)}
}

// earlierCell reports whether a cell is before another one.
func earlierCell(a impl.Cell, b impl.Cell) bool {
	if a.Window.Start != b.Window.Start {
		return a.Window.Start < b.Window.Start
	}
	return a.Key < b.Key
}

// findCell returns the index that a cell has or would have among others, and whether there is one of its window and key.
func findCell(list []impl.Cell, c impl.Cell) (int, bool) {
	i := 0
	for i < len(list) && earlierCell(list[i], c) {
		i++
	}
	return i, i < len(list) && list[i].Window == c.Window && list[i].Key == c.Key
}

// goodCell reports whether a state with a valid plan and watermark may have a cell.
func goodCell(p impl.Plan, mark int, c impl.Cell) bool {
	w, a := c.Window, c.Acc
	if w.Start < -impl.MaxTime || w.Start > impl.MaxTime || w.End != w.Start+p.Size || w.Start != w.Start/p.Slide*p.Slide {
		return false
	}
	values := a.Count >= 1 && a.Count <= impl.MaxEvents && a.Least >= 0 && a.Least <= a.Most && a.Most <= impl.MaxValue
	return values && a.Sum >= a.Count*a.Least && a.Sum <= a.Count*a.Most && c.Key >= 0 && c.Key <= impl.MaxKey && mark < w.End-1+p.Trigger.Lateness
}

// goodState reports whether ValidState should hold for a valid plan.
func goodState(p impl.Plan, s impl.WindowState) bool {
	for i, c := range s.Cells {
		if !goodCell(p, s.Mark, c) || i > 0 && !earlierCell(s.Cells[i-1], c) {
			return false
		}
	}
	return s.Mark >= -1 && s.Mark <= impl.MaxReach && len(s.Cells) <= impl.MaxCells
}

// someState returns a valid state of a plan, often one with cells side by side.
func someState(r *rand.Rand, p impl.Plan) impl.WindowState {
	mark := oneOf(r, -1, between(r, -1, 60), between(r, -1, impl.MaxTime), between(r, -1, impl.MaxReach))
	s, n := state(mark), oneOf(r, 0, 1, 5, between(r, 0, 20), impl.MaxCells)
	first := oneOf(r, 0, between(r, -impl.MaxTime, impl.MaxTime)/p.Slide)
	most := oneOf(r, 3, impl.MaxEvents)
	for range 2 * n {
		a := someAcc(r, most)
		c := cell((first+between(r, -9, 9))*p.Slide, p.Size, between(r, 0, oneOf(r, 1, impl.MaxKey)), a)
		at, there := findCell(s.Cells, c)
		if len(s.Cells) < n && !there && goodCell(p, mark, c) {
			s.Cells = slices.Insert(s.Cells, at, c)
		}
	}
	return s
}

// eventFor returns a valid event, often one of the window and the key of a cell.
func eventFor(r *rand.Rand, s impl.WindowState) impl.Event {
	if len(s.Cells) == 0 || r.IntN(4) == 0 {
		return someEvent(r)
	}
	c := s.Cells[r.IntN(len(s.Cells))]
	time := between(r, c.Window.Start, c.Window.End-1)
	return ev(min(max(time, 0), impl.MaxTime), c.Key, between(r, 0, impl.MaxValue))
}

// markFor returns a watermark that may follow that of a state, often one at which the window of a cell is written or removed.
func markFor(r *rand.Rand, p impl.Plan, s impl.WindowState) int {
	if len(s.Cells) == 0 || r.IntN(4) == 0 {
		return between(r, s.Mark, impl.MaxReach)
	}
	c := s.Cells[r.IntN(len(s.Cells))]
	return max(s.Mark, markNear(r, p.Trigger, c.Window))
}

// eventSlowly returns what WindowEvent should for valid arguments.
func eventSlowly(p impl.Plan, s impl.WindowState, e impl.Event) (impl.WindowState, []impl.Cell, bool) {
	next := state(s.Mark, slices.Clone(s.Cells)...)
	var written []impl.Cell
	for _, w := range slidingSlowly(e.Time, p.Size, p.Slide) {
		if s.Mark >= w.End-1+p.Trigger.Lateness {
			continue
		}
		c := impl.Cell{Key: e.Key, Window: w, Acc: acc(0, 0, e.Value, e.Value)}
		at, there := findCell(next.Cells, c)
		if there {
			c = next.Cells[at]
			next.Cells = slices.Delete(next.Cells, at, at+1)
		}
		c.Acc = acc(c.Acc.Count+1, c.Acc.Sum+e.Value, min(c.Acc.Least, e.Value), max(c.Acc.Most, e.Value))
		next.Cells = slices.Insert(next.Cells, at, c)
		if s.Mark >= w.End-1 || p.Trigger.Every > 0 && c.Acc.Count%p.Trigger.Every == 0 {
			written = append(written, c)
		}
	}
	if !goodState(p, next) {
		return impl.WindowState{}, nil, false
	}
	return next, written, true
}

// markSlowly returns what WindowMark should for valid arguments.
func markSlowly(p impl.Plan, s impl.WindowState, mark int) (impl.WindowState, []impl.Cell) {
	next := state(mark)
	var written []impl.Cell
	for _, c := range s.Cells {
		if s.Mark < c.Window.End-1 && mark >= c.Window.End-1 {
			written = append(written, c)
		}
		if mark < c.Window.End-1+p.Trigger.Lateness {
			next.Cells = append(next.Cells, c)
		}
	}
	return next, written
}

// runSlowly returns what WindowRun should for valid arguments, and whether no step fails.
func runSlowly(p impl.Plan, list []impl.Event, bound int) ([]impl.Cell, bool) {
	s, highest := state(-1), -1
	var all, written []impl.Cell
	for _, e := range list {
		ok := false
		if s, written, ok = eventSlowly(p, s, e); !ok {
			return nil, false
		}
		all = append(all, written...)
		highest = max(highest, e.Time)
		s, written = markSlowly(p, s, max(-1, highest-bound-1))
		all = append(all, written...)
	}
	_, written = markSlowly(p, s, impl.MaxReach)
	return append(all, written...), true
}

// batchSlowly returns the cells that BatchWindows should have, however many they are.
func batchSlowly(p impl.Plan, list []impl.Event) []impl.Cell {
	var cells []impl.Cell
	for start := -p.Slide * impl.MaxOverlap; start <= impl.MaxTime; start += p.Slide {
		for key := range impl.MaxKey + 1 {
			var part []impl.Event
			for _, e := range list {
				if e.Key == key && e.Time >= start && e.Time < start+p.Size {
					part = append(part, e)
				}
			}
			if len(part) > 0 {
				cells = append(cells, cell(start, p.Size, key, accSlowly(part)))
			}
		}
	}
	return cells
}

// inOrder returns cells in ascending order of Start and then of Key.
func inOrder(list []impl.Cell) []impl.Cell {
	var out []impl.Cell
	for _, c := range list {
		at, _ := findCell(out, c)
		out = slices.Insert(out, at, c)
	}
	return out
}

// expectState fails the test if a state of windows is not as expected.
func expectState(t *testing.T, what string, got impl.WindowState, want impl.WindowState) {
	t.Helper()
	expectIs(t, "Mark of "+what, got.Mark, want.Mark)
	expect(t, "Cells of "+what, got.Cells, want.Cells)
}

// expectNothing fails the test if results are not those of invalid arguments.
func expectNothing(t *testing.T, what string, s impl.WindowState, written []impl.Cell, ok bool) {
	t.Helper()
	if s.Mark != 0 || s.Cells != nil || written != nil || ok {
		t.Fatalf("%s = %v, %v, %v", what, s, written, ok)
	}
}

// single is the accumulator of one value.
var single = acc(1, 7, 7, 7)

// manyCells returns n cells of windows with the size 10 and the slide 5 that are valid but for their number.
func manyCells(n int) []impl.Cell {
	list := make([]impl.Cell, n)
	for i := range list {
		list[i] = cell(i/(impl.MaxKey+1)*5, 10, i%(impl.MaxKey+1), single)
	}
	return list
}

// badPlans returns plans that are invalid, each for one reason.
func badPlans() []impl.Plan {
	list := []impl.Plan{plan(11, 1, 0, 5), plan(999, 99, 0, 5), plan(5, 6, 0, 5), plan(0, 0, 0, 5)}
	for _, size := range badSizes() {
		list = append(list, plan(size, 5, 0, 5), plan(size, size, 0, 5))
	}
	for _, slide := range joined(extremes, []int{-5, -1, 0, 11}) {
		list = append(list, plan(10, slide, 0, 5))
	}
	for _, tr := range badTriggers() {
		list = append(list, impl.Plan{Size: 10, Slide: 5, Trigger: tr})
	}
	return list
}

// badCells returns cells that no state with the plan lenient and the watermark -1 has, each for one reason.
func badCells() []impl.Cell {
	list := []impl.Cell{{}, cell(-1000, 10, 1, single), cell(1000, 10, 1, single), cell(0, 9, 1, single), cell(0, 11, 1, single), cell(0, 0, 1, single), cell(0, -10, 1, single)}
	list = append(list, cell(3, 10, 1, single), cell(-3, 10, 1, single), cell(-1, 10, 1, single), cell(0, 10, 1, impl.Acc{}), cell(0, 10, 1, acc(impl.MaxEvents+1, 41, 1, 1)))
	for _, key := range joined(extremes, []int{-1, impl.MaxKey + 1}) {
		list = append(list, cell(0, 10, key, single))
	}
	for _, a := range badAccs() {
		list = append(list, cell(0, 10, 1, a))
	}
	for _, w := range badWindows() {
		list = append(list, impl.Cell{Key: 1, Window: w, Acc: single})
	}
	return list
}

// lenient is a plan whose windows are removed as late as possible.
var lenient = plan(10, 5, 0, impl.MaxTime)

// badStates returns states that are invalid for the plan lenient, each for one reason.
func badStates() []impl.WindowState {
	list := []impl.WindowState{state(-1, manyCells(impl.MaxCells+1)...), state(-1, manyCells(500)...)}
	for _, mark := range badReaches() {
		list = append(list, state(mark), state(mark, cell(0, 10, 1, single)))
	}
	for _, c := range badCells() {
		list = append(list, state(-1, c), state(-1, inOrder([]impl.Cell{cell(-5, 10, 1, single), c, cell(500, 10, 1, single)})...))
	}
	a, b, c := cell(0, 10, 5, single), cell(0, 10, 6, single), cell(5, 10, 1, single)
	list = append(list, state(-1, b, a), state(-1, a, a), state(-1, c, a), state(-1, c, b), state(-1, a, b, b), state(-1, a, b, c, b))
	return append(list, state(9+impl.MaxTime, a), state(10+impl.MaxTime, a), state(9+impl.MaxTime, a, c), state(impl.MaxReach, c))
}

func TestValidState(t *testing.T) {
	expectIs(t, "MaxCells", impl.MaxCells, 100)
	r := source(100)
	for range rounds {
		p := somePlan(r)
		s := someState(r, p)
		expectTrue(t, "a state without cells is valid", impl.ValidState(p, state(s.Mark)))
		expectTrue(t, "a state is valid", impl.ValidState(p, s))
		for _, mark := range []int{s.Mark - 1, markFor(r, p, s)} {
			other := state(mark, s.Cells...)
			expectIs(t, "ValidState with another watermark", impl.ValidState(p, other), goodState(p, other))
		}
		q := somePlan(r)
		expectIs(t, "ValidState of another plan", impl.ValidState(q, s), goodState(q, s))
	}
}

func TestValidStateAtLimits(t *testing.T) {
	expectTrue(t, "a state can have MaxCells cells", impl.ValidState(lenient, state(-1, manyCells(impl.MaxCells)...)))
	for _, s := range []impl.WindowState{
		state(-1), state(impl.MaxReach), state(-1, cell(-995, 10, 1, single)), state(-1, cell(995, 10, 1, single)), state(-1, cell(0, 10, 0, single), cell(0, 10, impl.MaxKey, single)),
		state(-1, cell(0, 10, 1, acc(impl.MaxEvents, 40*impl.MaxValue, impl.MaxValue, impl.MaxValue))), state(-1, cell(0, 10, 1, acc(1, 0, 0, 0))), state(8+impl.MaxTime, cell(0, 10, 1, single)),
	} {
		expectTrue(t, "a state at the limits is valid", impl.ValidState(lenient, s))
	}
	n := impl.MaxTime
	for _, c := range []struct {
		plan  impl.Plan
		start int
	}{{plan(n, n, 0, n), -n}, {plan(n, n, impl.MaxEvents, 0), n}, {plan(n, 100, 0, 0), 900}, {plan(1, 1, 1, n), -n}, {plan(10, 1, 0, n), -n}} {
		s := state(-1, cell(c.start, c.plan.Size, 1, single))
		clean := c.start + c.plan.Size - 1 + c.plan.Trigger.Lateness
		expectIs(t, "ValidState of a window at the limits", impl.ValidState(c.plan, s), clean > -1)
		expectTrue(t, "a window is kept before its clean time", impl.ValidState(c.plan, state(max(-1, clean-1), s.Cells...)) == (clean > -1))
		expectTrue(t, "no window is kept at its clean time", !impl.ValidState(c.plan, state(max(-1, clean), s.Cells...)))
	}
	none := plan(10, 5, 0, 0)
	expectTrue(t, "without lateness a window is kept before its last time", impl.ValidState(none, state(8, cell(0, 10, 1, single))))
	expectTrue(t, "without lateness no window is kept at its last time", !impl.ValidState(none, state(9, cell(0, 10, 1, single))))
}

func TestValidStateOfInvalidArguments(t *testing.T) {
	for _, bad := range badPlans() {
		expectTrue(t, "no state is valid for an invalid plan", !impl.ValidState(bad, state(-1)))
		expectTrue(t, "no state with a cell is valid for an invalid plan", !impl.ValidState(bad, state(-1, cell(0, bad.Size, 1, single))))
	}
	for _, bad := range badStates() {
		if impl.ValidState(lenient, bad) {
			t.Fatalf("ValidState(%v, %v)", lenient, bad)
		}
	}
}

func TestP56WindowsStayValid(t *testing.T) {
	r := source(101)
	var fine, refused int
	for range rounds * 5 {
		p := somePlan(r)
		s := someState(r, p)
		e, mark := eventFor(r, s), markFor(r, p, s)
		next, written, ok := impl.WindowEvent(p, s, e)
		want, cells, valid := eventSlowly(p, s, e)
		expectIs(t, "whether WindowEvent succeeds", ok, valid)
		expectState(t, "WindowEvent", next, want)
		expect(t, "what WindowEvent writes", written, cells)
		if ok {
			fine++
			expectTrue(t, "the state of WindowEvent is valid", impl.ValidState(p, next) && goodState(p, next))
		} else {
			refused++
			expectNothing(t, "WindowEvent without a valid result", next, written, ok)
		}
		next, written, ok = impl.WindowMark(p, s, mark)
		expectTrue(t, "a watermark can be handled", ok)
		expectTrue(t, "the state of WindowMark is valid", impl.ValidState(p, next) && goodState(p, next))
		want, cells = markSlowly(p, s, mark)
		expectState(t, "WindowMark", next, want)
		expect(t, "what WindowMark writes", written, cells)
	}
	expectTrue(t, "some events are refused, most are not", refused > 20 && fine > rounds)
}

func TestP57EventsAreAddedToTheirWindows(t *testing.T) {
	r := source(102)
	count := func(s impl.WindowState) int {
		n := 0
		for _, c := range s.Cells {
			n += c.Acc.Count
		}
		return n
	}
	var kept, dropped int
	for range rounds * 5 {
		p := somePlan(r)
		s := someState(r, p)
		e := eventFor(r, s)
		next, _, ok := impl.WindowEvent(p, s, e)
		if !ok {
			continue
		}
		n := 0
		for _, w := range impl.SlidingOf(e.Time, p.Size, p.Slide) {
			if s.Mark < impl.CleanTime(p.Trigger, w) {
				n++
			} else {
				dropped++
			}
		}
		kept += n
		expectIs(t, "the growth of all counts", count(next)-count(s), n)
	}
	expectTrue(t, "some windows are kept, others removed", kept > rounds && dropped > rounds)
}

func TestP58WhatIsWrittenIsInTheState(t *testing.T) {
	r := source(103)
	found := 0
	for range rounds * 5 {
		p := somePlan(r)
		s := someState(r, p)
		e := eventFor(r, s)
		next, written, _ := impl.WindowEvent(p, s, e)
		for _, c := range written {
			found++
			expectTrue(t, "a written cell is in the new state", slices.Contains(next.Cells, c))
			expectIs(t, "the key of a written cell", c.Key, e.Key)
			expectTrue(t, "the window of a written cell has the time", impl.WindowHas(c.Window, e.Time))
		}
	}
	expectTrue(t, "some cells are written", found > rounds)
}

func TestCellsAreWrittenAgain(t *testing.T) {
	p := plan(10, 5, 2, 3)
	s := state(-1)
	for _, c := range []struct {
		e       impl.Event
		mark    int
		kept    []impl.Cell
		written []impl.Cell
		passed  []impl.Cell
	}{
		{ev(7, 1, 4), 6, []impl.Cell{cell(0, 10, 1, acc(1, 4, 4, 4)), cell(5, 10, 1, acc(1, 4, 4, 4))}, nil, nil},
		{ev(3, 1, 6), 6, []impl.Cell{cell(-5, 10, 1, acc(1, 6, 6, 6)), cell(0, 10, 1, acc(2, 10, 4, 6)), cell(5, 10, 1, acc(1, 4, 4, 4))},
			[]impl.Cell{cell(-5, 10, 1, acc(1, 6, 6, 6)), cell(0, 10, 1, acc(2, 10, 4, 6))}, nil},
		{ev(9, 1, 0), 9, []impl.Cell{cell(0, 10, 1, acc(3, 10, 0, 6)), cell(5, 10, 1, acc(2, 4, 0, 4))},
			[]impl.Cell{cell(5, 10, 1, acc(2, 4, 0, 4))}, []impl.Cell{cell(0, 10, 1, acc(3, 10, 0, 6))}},
		{ev(4, 1, 9), 11, []impl.Cell{cell(0, 10, 1, acc(4, 19, 0, 9)), cell(5, 10, 1, acc(2, 4, 0, 4))}, []impl.Cell{cell(0, 10, 1, acc(4, 19, 0, 9))}, nil},
		{ev(1, 1, 1), 12, []impl.Cell{cell(5, 10, 1, acc(2, 4, 0, 4))}, []impl.Cell{cell(0, 10, 1, acc(5, 20, 0, 9))}, nil},
		{ev(2, 1, 5), 17, nil, nil, []impl.Cell{cell(5, 10, 1, acc(2, 4, 0, 4))}},
		{ev(9, 1, 5), 17, nil, nil, nil},
	} {
		next, written, ok := impl.WindowEvent(p, s, c.e)
		expectTrue(t, "an event can be handled", ok)
		expect(t, "what WindowEvent writes", written, c.written)
		s, written, ok = impl.WindowMark(p, next, c.mark)
		expectTrue(t, "a watermark can be handled", ok)
		expect(t, "what WindowMark writes", written, c.passed)
		expectState(t, "WindowMark", s, state(c.mark, c.kept...))
	}
}

func TestWindowEventUpToMaxEvents(t *testing.T) {
	p, e := plan(10, 5, impl.MaxEvents, 5), ev(7, 1, 9)
	full, less := acc(impl.MaxEvents, 99, 0, 9), acc(impl.MaxEvents-1, 90, 0, 9)
	a, b := cell(0, 10, 1, less), cell(5, 10, 1, less)
	next, written, ok := impl.WindowEvent(p, state(3, a, b), e)
	expectTrue(t, "a cell can have MaxEvents values", ok)
	want := []impl.Cell{cell(0, 10, 1, full), cell(5, 10, 1, full)}
	expectState(t, "WindowEvent with MaxEvents values", next, state(3, want...))
	expect(t, "what WindowEvent writes with MaxEvents values", written, want)
	for _, cells := range [][]impl.Cell{want, {a, want[1]}, {want[0], b}, {want[0]}} {
		next, written, ok = impl.WindowEvent(p, state(3, cells...), e)
		expectNothing(t, "WindowEvent with one value too many", next, written, ok)
		next, written, ok = impl.WindowEvent(p, state(11, cells...), e)
		expectNothing(t, "WindowEvent of a late event with one value too many", next, written, ok)
	}
	next, written, ok = impl.WindowEvent(p, state(14, want[1]), ev(4, 1, 9))
	expectTrue(t, "full cells of other windows do not matter", ok && len(written) == 0)
	expectState(t, "WindowEvent of an event that is dropped", next, state(14, want[1]))
	next, _, ok = impl.WindowEvent(p, state(3, want...), ev(7, 2, 9))
	expectTrue(t, "full cells of other keys do not matter", ok && len(next.Cells) == 4)
}

func TestWindowEventUpToMaxCells(t *testing.T) {
	p := plan(10, 5, 1, 5)
	full := manyCells(impl.MaxCells) // the windows from 0 to 30 on, the last one with four keys
	e := ev(32, 4, 9)
	next, written, ok := impl.WindowEvent(p, state(2, full[:impl.MaxCells-1]...), e) // only the last window has no cell yet
	expectTrue(t, "there can be MaxCells cells", ok && len(next.Cells) == impl.MaxCells && len(written) == 2)
	next, written, ok = impl.WindowEvent(p, state(2, full...), e)
	expectNothing(t, "WindowEvent with one cell too many", next, written, ok)
	next, written, ok = impl.WindowEvent(p, state(2, full...), ev(32, 3, 9))
	expectTrue(t, "an event can be added to MaxCells cells", ok && len(written) == 2)
	expectIs(t, "the number of cells", len(next.Cells), impl.MaxCells)
	late := state(14, full[16:]...)
	next, written, ok = impl.WindowEvent(p, late, ev(3, 4, 9))
	expectTrue(t, "an event that is too late changes nothing", ok && len(written) == 0)
	expectState(t, "WindowEvent of an event that is too late", next, late)
	next, written, ok = impl.WindowEvent(plan(10, 5, 1, 0), state(9), ev(9, 4, 9))
	expectTrue(t, "an event is dropped by some windows", ok)
	expectState(t, "WindowEvent of an event that some windows drop", next, state(9, cell(5, 10, 4, acc(1, 9, 9, 9))))
	expect(t, "what WindowEvent writes for other windows", written, next.Cells)
}

func TestWindowEventAtLimits(t *testing.T) {
	n := impl.MaxTime
	p := plan(n, 100, 0, n)
	for _, e := range edgeEvents() {
		next, written, ok := impl.WindowEvent(p, state(-1), e)
		want, cells, valid := eventSlowly(p, state(-1), e)
		expectTrue(t, "an event at the limits can be handled", ok && valid && len(cells) == 0 && len(written) == 0)
		expectState(t, "WindowEvent at the limits", next, want)
	}
	for _, c := range [][3]int{{2995, 1, 1}, {2996, 0, 0}, {impl.MaxReach, 0, 0}, {1996, 1, 0}, {1997, 1, 1}} {
		next, written, ok := impl.WindowEvent(plan(n, n, 0, n), state(c[0]), ev(n, 1, 5))
		expectTrue(t, "a watermark at the limits is allowed", ok)
		expectIs(t, "the number of cells", len(next.Cells), c[1])
		expectIs(t, "the number of written cells", len(written), c[2])
	}
}

func TestWindowEventOfInvalidArguments(t *testing.T) {
	for _, bad := range badPlans() {
		next, written, ok := impl.WindowEvent(bad, state(-1), ev(3, 1, 4))
		expectNothing(t, "WindowEvent of an invalid plan", next, written, ok)
	}
	for _, bad := range badStates() {
		for _, e := range []impl.Event{ev(3, 1, 4), ev(impl.MaxTime, 9, 4)} {
			next, written, ok := impl.WindowEvent(lenient, bad, e)
			expectNothing(t, "WindowEvent of an invalid state", next, written, ok)
		}
	}
	for _, e := range badEvents() {
		for _, s := range []impl.WindowState{state(-1), state(impl.MaxReach), state(5, cell(0, 10, 1, single))} {
			next, written, ok := impl.WindowEvent(lenient, s, e)
			expectNothing(t, "WindowEvent of an invalid event", next, written, ok)
		}
	}
}

func TestP59WindowsAreWrittenWhenTheWatermarkPassesThem(t *testing.T) {
	r := source(104)
	var fired, removed, stayed int
	for range rounds * 5 {
		p := somePlan(r)
		s := someState(r, p)
		mark := markFor(r, p, s)
		next, written, ok := impl.WindowMark(p, s, mark)
		expectTrue(t, "a watermark can be handled", ok)
		expectIs(t, "the new watermark", next.Mark, mark)
		var fires, stays []impl.Cell
		for _, c := range s.Cells {
			fire, remove, _ := impl.TriggerMark(p.Trigger, c.Window, s.Mark, mark)
			if fire {
				fires = append(fires, c)
			}
			if !remove {
				stays = append(stays, c)
			} else {
				removed++
			}
		}
		expect(t, "the written cells", written, fires)
		expect(t, "the cells that stay", next.Cells, stays)
		fired, stayed = fired+len(fires), stayed+len(stays)
	}
	expectTrue(t, "cells are written, removed and stay", fired > rounds && removed > rounds && stayed > rounds)
}

func TestP60WatermarksCanBeSkipped(t *testing.T) {
	r := source(105)
	found := 0
	for range rounds * 5 {
		p := somePlan(r)
		s := someState(r, p)
		marks := []int{markFor(r, p, s), markFor(r, p, s)}
		slices.Sort(marks)
		next, written, ok := impl.WindowMark(p, s, marks[1])
		middle, first, ok1 := impl.WindowMark(p, s, marks[0])
		last, second, ok2 := impl.WindowMark(p, middle, marks[1])
		expectTrue(t, "watermarks can be handled", ok && ok1 && ok2)
		expectState(t, "WindowMark in two steps", last, next)
		expect(t, "what WindowMark writes in two steps", inOrder(joined(first, second)), inOrder(written))
		if len(first) > 0 && len(second) > 0 {
			found++
		}
	}
	expectTrue(t, "some cells are written in each of two steps", found > 50)
}

func TestWindowMarkAtLimits(t *testing.T) {
	p := plan(10, 5, 1, 3)
	a, b := cell(0, 10, 2, single), cell(5, 10, 1, single)
	s := state(4, a, b)
	for _, c := range []struct {
		mark          int
		written, kept []impl.Cell
	}{
		{4, nil, s.Cells}, {8, nil, s.Cells}, {9, []impl.Cell{a}, s.Cells}, {11, []impl.Cell{a}, s.Cells}, {12, []impl.Cell{a}, []impl.Cell{b}},
		{14, s.Cells, []impl.Cell{b}}, {16, s.Cells, []impl.Cell{b}}, {17, s.Cells, nil}, {impl.MaxReach, s.Cells, nil},
	} {
		next, written, ok := impl.WindowMark(p, s, c.mark)
		expectTrue(t, "a watermark can be handled", ok)
		expectState(t, "WindowMark", next, state(c.mark, c.kept...))
		expect(t, "what WindowMark writes", written, c.written)
	}
	next, written, ok := impl.WindowMark(p, state(9, a, b), 11)
	expectTrue(t, "a window is written once", ok && len(written) == 0)
	expectState(t, "WindowMark of a window that was written", next, state(11, a, b))
	next, written, ok = impl.WindowMark(lenient, state(-1, manyCells(impl.MaxCells)...), impl.MaxReach)
	expectTrue(t, "MaxCells cells can be written at once", ok)
	expect(t, "what WindowMark writes at MaxReach", written, manyCells(impl.MaxCells))
	expectState(t, "WindowMark at MaxReach", next, state(impl.MaxReach))
	next, written, ok = impl.WindowMark(lenient, next, impl.MaxReach)
	expectTrue(t, "MaxReach can be told twice", ok && len(written) == 0)
	expectState(t, "WindowMark at MaxReach again", next, state(impl.MaxReach))
}

func TestWindowMarkOfInvalidArguments(t *testing.T) {
	for _, bad := range badPlans() {
		next, written, ok := impl.WindowMark(bad, state(-1), 5)
		expectNothing(t, "WindowMark of an invalid plan", next, written, ok)
	}
	for _, bad := range badStates() {
		for _, mark := range []int{bad.Mark, max(-1, bad.Mark), impl.MaxReach} {
			next, written, ok := impl.WindowMark(lenient, bad, mark)
			expectNothing(t, "WindowMark of an invalid state", next, written, ok)
		}
	}
	for _, s := range []impl.WindowState{state(0), state(7, cell(0, 10, 1, single)), state(impl.MaxReach)} {
		for _, mark := range joined(badReaches(), []int{s.Mark - 1, -1}) {
			next, written, ok := impl.WindowMark(lenient, s, mark)
			expectNothing(t, "WindowMark of an invalid watermark", next, written, ok)
		}
	}
}

// eventsOf returns up to MaxEvents valid events for a plan, in most calls so few that BatchWindows has all cells.
func eventsOf(r *rand.Rand, p impl.Plan) []impl.Event {
	many := max(2, impl.MaxCells*p.Slide/p.Size)
	return someEvents(r, min(impl.MaxEvents, mostly(r, many, impl.MaxEvents)))
}

// withoutEarly returns a plan without early output.
func withoutEarly(p impl.Plan) impl.Plan {
	p.Trigger.Every = 0
	return p
}

func TestWindowRun(t *testing.T) {
	r := source(106)
	var again, refused int
	for range rounds * 2 {
		p, bound := somePlan(r), oneOf(r, 0, 1, between(r, 0, 30), between(r, 0, impl.MaxTime), impl.MaxTime)
		list := someEvents(r, impl.MaxEvents)
		got := impl.WindowRun(p, list, bound)
		want, ok := runSlowly(p, list, bound)
		expect(t, "WindowRun", got, want)
		if !ok {
			refused++
			expectTrue(t, "WindowRun of which a step fails is nil", got == nil)
		}
		if len(got) > len(batchSlowly(p, list)) {
			again++
		}
	}
	expectTrue(t, "some runs write cells again, few fail", again > 50 && refused > 5 && refused < rounds)
}

func TestP61WithoutLateEventsAStreamWritesWhatABatchDoes(t *testing.T) {
	r := source(107)
	found := 0
	for range rounds * 2 {
		p := withoutEarly(somePlan(r))
		list := eventsOf(r, p)
		batch := impl.BatchWindows(p, list)
		expect(t, "WindowRun with a bound of MaxTime", impl.WindowRun(p, list, impl.MaxTime), batch)
		found += len(batch)
	}
	expectTrue(t, "there are some cells", found > rounds)
}

func TestP62SortedEventsAreNeverTooLate(t *testing.T) {
	r := source(108)
	found := 0
	for range rounds * 2 {
		p := withoutEarly(somePlan(r))
		list := impl.SortEvents(eventsOf(r, p))
		batch := impl.BatchWindows(p, list)
		if batch == nil {
			continue // there may be too many cells for a batch, but not for a stream
		}
		for _, bound := range []int{0, 1, 50, impl.MaxTime, between(r, 0, impl.MaxTime)} {
			run := impl.WindowRun(p, list, bound)
			expect(t, "WindowRun of sorted events", inOrder(run), batch)
			found += len(run)
		}
	}
	expectTrue(t, "there are some cells", found > rounds)
}

func TestP63LatenessMendsResults(t *testing.T) {
	r := source(109)
	var found, mended int
	for range rounds * 2 {
		p, bound := somePlan(r), oneOf(r, 0, 1, between(r, 0, impl.MaxTime))
		p.Trigger.Lateness = impl.MaxTime
		list := eventsOf(r, p)
		last := map[[2]int]impl.Cell{}
		for _, c := range impl.WindowRun(p, list, bound) {
			at := [2]int{c.Window.Start, c.Key}
			if _, there := last[at]; there {
				mended++
			}
			last[at] = c
		}
		batch := impl.BatchWindows(p, list)
		expectIs(t, "the number of windows and keys that are written", len(last), len(batch))
		for _, c := range batch {
			found++
			expectIs(t, "the last cell of a window and a key", last[[2]int{c.Window.Start, c.Key}], c)
		}
	}
	expectTrue(t, "there are some cells, and some are written again", found > rounds && mended > rounds)
}

// spread returns n events so far apart that no two of them have a common window of the size 10.
func spread(n int) []impl.Event {
	list := make([]impl.Event, n)
	for i := range list {
		list[i] = ev(20*i, 1, 5)
	}
	return list
}

func TestWindowRunAtLimits(t *testing.T) {
	p := plan(10, 1, 0, 0)
	ten := spread(10)
	for _, bound := range []int{0, impl.MaxTime} {
		expectIs(t, "the number of cells of WindowRun with MaxCells cells", len(impl.WindowRun(p, ten, bound)), impl.MaxCells)
	}
	many := append(ten, ev(181, 1, 5)) // one more window has it
	expect(t, "WindowRun with one cell too many", impl.WindowRun(p, many, impl.MaxTime), nil)
	expect(t, "WindowRun with one cell too many and early output", impl.WindowRun(plan(10, 1, 1, 0), many, impl.MaxTime), nil)
	expect(t, "WindowRun with more than MaxCells cells in all", inOrder(impl.WindowRun(p, many, 0)), batchSlowly(p, many))
	expectIs(t, "the number of cells of WindowRun of MaxEvents events", len(impl.WindowRun(p, spread(impl.MaxEvents), 0)), 10*impl.MaxEvents)
	same := slices.Repeat([]impl.Event{ev(5, 1, 2)}, impl.MaxEvents)
	got := impl.WindowRun(plan(10, 10, 1, 0), same, 0)
	expectIs(t, "the number of cells with early output for each event", len(got), impl.MaxEvents+1)
	for i, c := range got {
		n := min(i+1, impl.MaxEvents)
		expectIs(t, "a cell with early output", c, cell(0, 10, 1, acc(n, 2*n, 2, 2)))
	}
	expectTrue(t, "no events write no cells", len(impl.WindowRun(p, nil, 0)) == 0)
	n := impl.MaxTime
	for _, e := range edgeEvents() {
		for _, q := range []impl.Plan{plan(n, n, 0, n), plan(n, 100, 0, 0), plan(1, 1, 0, 0)} {
			expect(t, "WindowRun of an event at the limits", impl.WindowRun(q, []impl.Event{e}, 0), batchSlowly(q, []impl.Event{e}))
		}
	}
}

func TestWindowRunWithRemovedWindows(t *testing.T) {
	list := []impl.Event{ev(3, 1, 4), ev(15, 1, 1), ev(9, 1, 2), ev(4, 2, 3), ev(12, 1, 6)}
	a, b, c := cell(0, 10, 1, acc(1, 4, 4, 4)), cell(0, 10, 1, acc(2, 6, 2, 4)), cell(0, 10, 2, acc(1, 3, 3, 3))
	last := cell(10, 10, 1, acc(2, 7, 1, 6))
	for _, x := range []struct {
		lateness, bound int
		want            []impl.Cell
	}{{0, 0, []impl.Cell{a, last}}, {5, 0, []impl.Cell{a, last}}, {6, 0, []impl.Cell{a, b, c, last}}, {0, 5, []impl.Cell{a, last}}, {0, 6, []impl.Cell{b, c, last}}} {
		expect(t, "WindowRun", impl.WindowRun(plan(10, 10, 0, x.lateness), list, x.bound), x.want)
	}
}

func TestWindowRunOfInvalidArguments(t *testing.T) {
	good := []impl.Event{ev(3, 1, 4), ev(12, 1, 1)}
	for _, bad := range badPlans() {
		for _, list := range [][]impl.Event{good, nil} {
			expectTrue(t, "WindowRun of an invalid plan is nil", impl.WindowRun(bad, list, 0) == nil)
			expectTrue(t, "BatchWindows of an invalid plan is nil", impl.BatchWindows(bad, list) == nil)
		}
	}
	for _, bad := range badLists() {
		expectTrue(t, "WindowRun of invalid events is nil", impl.WindowRun(lenient, bad, 0) == nil)
		expectTrue(t, "BatchWindows of invalid events is nil", impl.BatchWindows(lenient, bad) == nil)
	}
	for _, bound := range joined(extremes, []int{-1, impl.MaxTime + 1}) {
		expectTrue(t, "WindowRun with an invalid bound is nil", impl.WindowRun(lenient, good, bound) == nil)
	}
}

func TestP64BatchesDoNotDependOnOrder(t *testing.T) {
	r := source(110)
	for range rounds * 2 {
		p := somePlan(r)
		list := eventsOf(r, p)
		batch := impl.BatchWindows(p, list)
		expect(t, "BatchWindows in reverse order", impl.BatchWindows(p, reversed(list)), batch)
		for i := 1; i < len(batch); i++ {
			expectTrue(t, "the cells of a batch ascend", earlierCell(batch[i-1], batch[i]))
		}
	}
}

func TestP65CellsHaveTheEventsOfTheirWindowAndKey(t *testing.T) {
	r := source(111)
	found := 0
	for range rounds * 2 {
		p := somePlan(r)
		list := eventsOf(r, p)
		batch := impl.BatchWindows(p, list)
		for _, c := range batch {
			found++
			part := slices.DeleteFunc(slices.Clone(list), func(e impl.Event) bool { return e.Key != c.Key || !impl.WindowHas(c.Window, e.Time) })
			expectIs(t, "the accumulator of a cell", c.Acc, impl.AccOf(part))
		}
		if all := batchSlowly(p, list); len(all) <= impl.MaxCells {
			expect(t, "BatchWindows", batch, all)
		} else {
			expectTrue(t, "BatchWindows of too many cells is nil", batch == nil)
		}
	}
	expectTrue(t, "there are some cells", found > rounds)
}

func TestBatchWindowsAtLimits(t *testing.T) {
	p := plan(10, 1, 0, 0)
	ten := spread(10)
	expect(t, "BatchWindows with MaxCells cells", impl.BatchWindows(p, ten), batchSlowly(p, ten))
	expectIs(t, "the number of cells", len(impl.BatchWindows(p, ten)), impl.MaxCells)
	expectTrue(t, "BatchWindows with one cell too many is nil", impl.BatchWindows(p, append(ten, ev(181, 1, 5))) == nil)
	expectTrue(t, "BatchWindows with many cells too many is nil", impl.BatchWindows(p, spread(impl.MaxEvents)) == nil)
	same := slices.Repeat([]impl.Event{ev(0, 0, impl.MaxValue)}, impl.MaxEvents)
	expect(t, "BatchWindows of equal events", impl.BatchWindows(plan(4, 2, 7, 9), same), []impl.Cell{
		cell(-2, 4, 0, acc(impl.MaxEvents, 40*impl.MaxValue, impl.MaxValue, impl.MaxValue)), cell(0, 4, 0, acc(impl.MaxEvents, 40*impl.MaxValue, impl.MaxValue, impl.MaxValue)),
	})
	expectTrue(t, "no events have no cells", len(impl.BatchWindows(p, nil)) == 0)
	expect(t, "BatchWindows of edges", impl.BatchWindows(lenient, edgeEvents()), batchSlowly(lenient, edgeEvents()))
}

func TestWindowingKeepsArguments(t *testing.T) {
	r := source(112)
	bad := cell(-5, -5, -5, acc(-5, -5, -5, -5))
	for range rounds * 2 {
		p := somePlan(r)
		s := someState(r, p)
		e := eventFor(r, s)
		g := guarded(s.Cells, cell(77, 7, 7, single))
		s.Cells = g.list
		impl.ValidState(p, s)
		for _, mark := range []int{-2, s.Mark, markFor(r, p, s)} {
			next, written, _ := impl.WindowMark(p, s, mark)
			if mark == -2 {
				next, written, _ = impl.WindowEvent(p, s, e)
			}
			kept := slices.Clone(next.Cells)
			spoil(written, bad)
			expect(t, "the state after written cells were overwritten", next.Cells, kept)
			spoil(next.Cells, bad)
			g.check(t, "a function of a state")
		}
		list := guarded(eventsOf(r, p), ev(77, 7, 77))
		spoil(impl.WindowRun(p, list.list, 5), bad)
		spoil(impl.BatchWindows(p, list.list), bad)
		list.check(t, "a function of events and a plan")
	}
}
