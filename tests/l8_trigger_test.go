package tests

import (
	"math/rand/v2"
	"testing"

	"loop.example/eventstreams/impl"
)

// trig returns a trigger.
func trig(every int, lateness int) impl.Trigger {
	return impl.Trigger{Every: every, Lateness: lateness}
}

// someTrigger returns a valid trigger.
func someTrigger(r *rand.Rand) impl.Trigger {
	return trig(oneOf(r, 0, 1, 3, between(r, 0, impl.MaxEvents)), oneOf(r, 0, between(r, 0, 9), between(r, 0, impl.MaxTime)))
}

// markNear returns a watermark of windows, often one near the end or the clean time of a window.
func markNear(r *rand.Rand, tr impl.Trigger, w impl.Window) int {
	near := oneOf(r, w.End-1, w.End-1+tr.Lateness) + between(r, -2, 2)
	return max(-1, oneOf(r, -1, near, near, between(r, -1, impl.MaxReach), impl.MaxReach))
}

// badTriggers returns triggers that are invalid, each for one reason.
func badTriggers() []impl.Trigger {
	list := []impl.Trigger{trig(-1, 5), trig(impl.MaxEvents+1, 5), trig(0, -1), trig(0, impl.MaxTime+1)}
	for _, x := range extremes {
		list = append(list, trig(x, 5), trig(0, x))
	}
	return list
}

// edgeTriggers returns valid triggers at the limits.
func edgeTriggers() []impl.Trigger {
	return []impl.Trigger{trig(0, 0), trig(impl.MaxEvents, 0), trig(0, impl.MaxTime), trig(impl.MaxEvents, impl.MaxTime), trig(1, 1)}
}

// badReaches returns numbers that are no watermarks of triggers.
func badReaches() []int {
	return joined(extremes, []int{-2, -3, impl.MaxReach + 1, impl.MaxClock})
}

func TestP47LatenessKeepsWindows(t *testing.T) {
	r := source(80)
	windows := edgeWindows()
	for range rounds {
		windows = append(windows, someWindow(r))
	}
	for _, w := range windows {
		expectIs(t, "CleanTime without lateness", impl.CleanTime(trig(0, 0), w), w.End-1)
		lateness := between(r, 0, impl.MaxTime-1)
		less, more := impl.CleanTime(trig(3, lateness), w), impl.CleanTime(trig(3, lateness+1), w)
		expectIs(t, "CleanTime with lateness", less, w.End-1+lateness)
		expectIs(t, "CleanTime with more lateness", more, less+1)
		for _, bad := range badTriggers() {
			expectIs(t, "CleanTime of an invalid trigger", impl.CleanTime(bad, w), -1)
		}
	}
	for _, tr := range edgeTriggers() {
		expectIs(t, "CleanTime of a trigger at the limits", impl.CleanTime(tr, win(3, lastEnd)), lastEnd-1+tr.Lateness)
		for _, bad := range badWindows() {
			expectIs(t, "CleanTime of an invalid window", impl.CleanTime(tr, bad), -1)
		}
	}
	expectIs(t, "CleanTime before time 0", impl.CleanTime(trig(0, 2), win(-9, -5)), -4)
}

func TestP48EventsAreKeptUntilTheWindowIsRemoved(t *testing.T) {
	r := source(81)
	var found [4]int
	for range rounds * 10 {
		tr, w := someTrigger(r), someWindow(r)
		many, mark := between(r, 1, impl.MaxEvents), markNear(r, tr, w)
		code := impl.TriggerEvent(tr, w, many, mark)
		expectTrue(t, "valid arguments have a code", code >= 0 && code < impl.TriggerInvalid)
		found[code]++
		expectIs(t, "whether the event is dropped", code == impl.TriggerDrop, mark >= impl.CleanTime(tr, w))
		if mark < impl.CleanTime(tr, w) && mark >= w.End-1 {
			expectIs(t, "TriggerEvent of a late event", code, impl.TriggerFire)
		}
	}
	for _, code := range []int{impl.TriggerWait, impl.TriggerFire, impl.TriggerDrop} {
		expectTrue(t, "each code is returned", found[code] > 100)
	}
	expect(t, "the codes", []int{impl.TriggerWait, impl.TriggerFire, impl.TriggerDrop, impl.TriggerInvalid}, []int{0, 1, 2, 3})
	expectIs(t, "MaxReach", impl.MaxReach, 3000)
}

func TestTriggerEventAtLimits(t *testing.T) {
	w := win(0, 10)
	for _, c := range [][5]int{
		{0, 0, 1, 8, impl.TriggerWait}, {0, 0, 1, 9, impl.TriggerDrop}, {0, 1, 1, 9, impl.TriggerFire}, {0, 1, 1, 10, impl.TriggerDrop},
		{0, 999, 1, 1007, impl.TriggerFire}, {0, 999, 1, 1008, impl.TriggerDrop}, {1, 0, 1, -1, impl.TriggerFire}, {1, 0, 1, 9, impl.TriggerDrop},
		{40, 0, 40, 8, impl.TriggerFire}, {40, 0, 39, 8, impl.TriggerWait}, {3, 2, 4, 9, impl.TriggerFire}, {3, 2, 4, 8, impl.TriggerWait},
		{0, 999, 40, impl.MaxReach, impl.TriggerDrop},
	} {
		expectIs(t, "TriggerEvent", impl.TriggerEvent(trig(c[0], c[1]), w, c[2], c[3]), c[4])
	}
	expectIs(t, "TriggerEvent of the longest window", impl.TriggerEvent(trig(0, impl.MaxTime), win(-impl.MaxTime, lastEnd), 1, 2995), impl.TriggerFire)
	expectIs(t, "TriggerEvent of a window that is over at once", impl.TriggerEvent(trig(0, 0), win(-9, 0), 1, -1), impl.TriggerDrop)
	expectIs(t, "TriggerEvent of a window that is late at once", impl.TriggerEvent(trig(0, 9), win(-9, -3), 1, -1), impl.TriggerFire)
}

func TestTriggerEventOfInvalidArguments(t *testing.T) {
	refuse := func(tr impl.Trigger, w impl.Window, many int, mark int) {
		t.Helper()
		if code := impl.TriggerEvent(tr, w, many, mark); code != impl.TriggerInvalid {
			t.Fatalf("TriggerEvent(%v, %v, %d, %d) = %d", tr, w, many, mark, code)
		}
	}
	tr, w := trig(2, 5), win(0, 10)
	for _, bad := range badTriggers() {
		refuse(bad, w, 2, 5)
		refuse(bad, w, 2, impl.MaxReach)
	}
	for _, bad := range badWindows() {
		refuse(tr, bad, 2, 5)
		refuse(tr, bad, 2, impl.MaxReach)
	}
	for _, many := range joined(extremes, []int{-2, 0, impl.MaxEvents + 1}) {
		refuse(tr, w, many, 5)
		refuse(tr, w, many, impl.MaxReach)
	}
	for _, mark := range badReaches() {
		refuse(tr, w, 2, mark)
	}
}

func TestP49EarlyOutputComesEverySoManyEvents(t *testing.T) {
	w := win(0, 10)
	for every := range impl.MaxEvents + 1 {
		for many := 1; many <= impl.MaxEvents; many++ {
			want := impl.TriggerWait
			for k := every; k <= many && every > 0; k += every {
				if k == many {
					want = impl.TriggerFire
				}
			}
			for _, mark := range []int{-1, 0, 8} {
				expectIs(t, "TriggerEvent before the end", impl.TriggerEvent(trig(every, 7), w, many, mark), want)
			}
		}
	}
}

func TestP50WindowsFireOnce(t *testing.T) {
	r := source(82)
	var fired, removed int
	for range rounds * 10 {
		tr, w := someTrigger(r), someWindow(r)
		marks := []int{markNear(r, tr, w), markNear(r, tr, w), markNear(r, tr, w)}
		old, mid, mark := min(marks[0], marks[1], marks[2]), 0, max(marks[0], marks[1], marks[2])
		mid = marks[0] + marks[1] + marks[2] - old - mark
		fire, clean, ok := impl.TriggerMark(tr, w, old, mark)
		fire1, clean1, ok1 := impl.TriggerMark(tr, w, old, mid)
		fire2, clean2, ok2 := impl.TriggerMark(tr, w, mid, mark)
		expectTrue(t, "watermarks may grow", ok && ok1 && ok2)
		expectIs(t, "whether the window fires", fire, old < w.End-1 && w.End-1 <= mark)
		expectIs(t, "whether the window is removed", clean, old < impl.CleanTime(tr, w) && impl.CleanTime(tr, w) <= mark)
		expectTrue(t, "the window fires in at most one step", !(fire1 && fire2))
		expectTrue(t, "the window is removed in at most one step", !(clean1 && clean2))
		expectTrue(t, "two steps do what one step does", fire == (fire1 || fire2) && clean == (clean1 || clean2))
		if fire {
			fired++
		}
		if clean {
			removed++
		}
	}
	expectTrue(t, "some windows fire and are removed", fired > rounds && removed > rounds)
}

func TestTriggerMarkAtLimits(t *testing.T) {
	w := win(0, 10)
	for _, c := range []struct {
		lateness, old, mark int
		fire, clean         bool
	}{
		{0, 8, 9, true, true}, {0, 9, 9, false, false}, {0, 8, 8, false, false}, {0, 9, 10, false, false}, {0, -1, impl.MaxReach, true, true},
		{1, 8, 9, true, false}, {1, 9, 10, false, true}, {1, 8, 10, true, true}, {1, 10, 11, false, false}, {999, 9, 1007, false, false}, {999, 1007, 1008, false, true},
		{0, impl.MaxReach, impl.MaxReach, false, false}, {0, -1, -1, false, false},
	} {
		fire, clean, ok := impl.TriggerMark(trig(4, c.lateness), w, c.old, c.mark)
		expectTrue(t, "a watermark may grow or stay", ok)
		expect(t, "TriggerMark", []bool{fire, clean}, []bool{c.fire, c.clean})
	}
	fire, clean, ok := impl.TriggerMark(trig(0, 0), win(-9, 0), -1, 5)
	expectTrue(t, "a window that is over at once does not fire", ok && !fire && !clean)
}

func TestTriggerMarkOfInvalidArguments(t *testing.T) {
	refuse := func(tr impl.Trigger, w impl.Window, old int, mark int) {
		t.Helper()
		if fire, clean, ok := impl.TriggerMark(tr, w, old, mark); fire || clean || ok {
			t.Fatalf("TriggerMark(%v, %v, %d, %d) = %v, %v, %v", tr, w, old, mark, fire, clean, ok)
		}
	}
	tr, w := trig(2, 5), win(0, 10)
	for _, bad := range badTriggers() {
		refuse(bad, w, -1, impl.MaxReach)
	}
	for _, bad := range badWindows() {
		refuse(tr, bad, -1, impl.MaxReach)
	}
	for _, mark := range badReaches() {
		refuse(tr, w, mark, impl.MaxReach)
		refuse(tr, w, -1, mark)
		refuse(tr, w, mark, mark)
	}
	for _, c := range [][2]int{{9, 8}, {impl.MaxReach, -1}, {0, -1}, {20, 9}} {
		refuse(tr, w, c[0], c[1])
	}
}
