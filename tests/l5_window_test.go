package tests

import (
	"math/rand/v2"
	"slices"
	"testing"

	"loop.example/eventstreams/impl"
)

// lastEnd is the greatest end of a window and the greatest watermark of windows.
const lastEnd = 2 * impl.MaxTime

// win returns a window.
func win(start int, end int) impl.Window {
	return impl.Window{Start: start, End: end}
}

// someWindow returns a valid window, in some calls one of few.
func someWindow(r *rand.Rand) impl.Window {
	start := oneOf(r, between(r, -3, 12), between(r, -40, 40), between(r, -impl.MaxTime, impl.MaxTime))
	end := oneOf(r, start+between(r, 1, 3), start+between(r, 1, 60), between(r, start+1, lastEnd))
	return win(start, end)
}

// someWindows returns up to MaxEvents valid windows, in some calls short ones.
func someWindows(r *rand.Rand) []impl.Window {
	list := make([]impl.Window, oneOf(r, 0, 1, 2, between(r, 0, 9), impl.MaxEvents))
	low, size := oneOf(r, 0, -20, -impl.MaxTime), oneOf(r, 3, 20, 200)
	for i := range list {
		start := between(r, low, low+impl.MaxTime/oneOf(r, 1, 9))
		list[i] = mostly(r, win(start, start+between(r, 1, size)), someWindow(r))
	}
	return list
}

// mostly returns one of two values, mostly the first one.
func mostly[T any](r *rand.Rand, often T, rarely T) T {
	if r.IntN(8) > 0 {
		return often
	}
	return rarely
}

// badWindows returns windows that are invalid, each for one reason.
func badWindows() []impl.Window {
	list := []impl.Window{{}, win(5, 5), win(5, 4), win(-5, -5), win(-5, -6)}
	list = append(list, win(-impl.MaxTime-1, 5), win(impl.MaxTime+1, impl.MaxTime+5), win(5, lastEnd+1), win(-7, lastEnd+1))
	for _, x := range extremes {
		list = append(list, win(x, 5), win(5, x), win(x, x))
	}
	return list
}

// edgeWindows returns valid windows at the limits.
func edgeWindows() []impl.Window {
	n := impl.MaxTime
	return []impl.Window{win(-n, -n+1), win(-n, 0), win(-n, lastEnd), win(-1, 0), win(0, 1), win(0, lastEnd), win(n, n+1), win(n, lastEnd)}
}

// badWindowLists returns lists of windows that are invalid: by one window, wherever it is, or by their number.
func badWindowLists() [][]impl.Window {
	many := slices.Repeat([]impl.Window{win(0, 1)}, impl.MaxEvents+1)
	lists := [][]impl.Window{many, slices.Repeat(many, 20)}
	for _, w := range badWindows() {
		lists = append(lists, []impl.Window{w}, []impl.Window{w, win(1, 5)}, []impl.Window{win(-3, 5), win(9, 20), w})
	}
	return lists
}

// badTimes returns numbers that are no times.
func badTimes() []int {
	return joined(extremes, []int{-1, -2, impl.MaxTime + 1})
}

// badSizes returns numbers that are no sizes of windows.
func badSizes() []int {
	return joined(extremes, []int{-impl.MaxTime, -1, 0, impl.MaxTime + 1})
}

// sizes returns sizes of windows, those at the limits among them.
func sizes() []int {
	return []int{1, 2, 3, 7, 10, 60, 500, 998, impl.MaxTime}
}

func TestP27TumblingWindowsFollowEachOther(t *testing.T) {
	for _, size := range sizes() {
		for _, offset := range []int{0, 1, size / 2, size - 2, size - 1} {
			if offset < 0 || offset >= size {
				continue
			}
			start := offset - size
			for time := range impl.MaxTime + 1 {
				if time == start+size {
					start = time
				}
				w, ok := impl.TumblingOf(time, size, offset)
				expectTrue(t, "a time has a tumbling window", ok)
				expectIs(t, "TumblingOf", w, win(start, start+size))
				expectTrue(t, "the window has its time", impl.WindowHas(w, time))
			}
		}
	}
	r := source(50)
	for range rounds * 5 {
		size := between(r, 1, impl.MaxTime)
		time, offset := between(r, 0, impl.MaxTime), between(r, 0, size-1)
		w, _ := impl.TumblingOf(time, size, offset)
		expectIs(t, "the size of TumblingOf", w.End-w.Start, size)
		expectIs(t, "the start of TumblingOf behind the offset", (w.Start-offset)%size, 0)
		if next, ok := impl.TumblingOf(time+size, size, offset); ok {
			expectIs(t, "the window after this one", next, win(w.End, w.End+size))
		}
	}
}

func TestTumblingOfBeforeTimeZero(t *testing.T) {
	for _, c := range [][4]int{{0, 5, 1, -4}, {0, 5, 4, -1}, {3, 5, 4, -1}, {4, 5, 4, 4}, {0, 999, 998, -1}, {0, 999, 1, -998}, {997, 999, 998, -1}, {0, 1, 0, 0}, {0, 999, 0, 0}, {999, 999, 0, 999}} {
		w, ok := impl.TumblingOf(c[0], c[1], c[2])
		expectTrue(t, "a window may begin before time 0", ok)
		expectIs(t, "TumblingOf at the beginning", w, win(c[3], c[3]+c[1]))
	}
}

func TestTumblingOfInvalidArguments(t *testing.T) {
	refuse := func(time int, size int, offset int) {
		t.Helper()
		if w, ok := impl.TumblingOf(time, size, offset); ok || w != (impl.Window{}) {
			t.Fatalf("TumblingOf(%d, %d, %d) = %v, %v", time, size, offset, w, ok)
		}
	}
	for _, time := range badTimes() {
		refuse(time, 5, 1)
	}
	for _, size := range badSizes() {
		refuse(7, size, 0)
		refuse(7, size, 1)
	}
	for _, size := range sizes() {
		for _, offset := range joined(extremes, []int{-1, -size, size, size + 1}) {
			refuse(7, size, offset)
		}
	}
}

// slidesOf returns valid slides for a size, those at the limits among them.
func slidesOf(size int) []int {
	least := (size + impl.MaxOverlap - 1) / impl.MaxOverlap
	return []int{least, (least + size) / 2, size}
}

// slidingSlowly returns what SlidingOf should.
func slidingSlowly(time int, size int, slide int) []impl.Window {
	var list []impl.Window
	for start := -slide * impl.MaxOverlap; start <= time; start += slide {
		if start+size > time {
			list = append(list, win(start, start+size))
		}
	}
	return list
}

func TestP28SlidingWindowsHaveTheirTime(t *testing.T) {
	for _, size := range sizes() {
		for _, slide := range slidesOf(size) {
			for time := range impl.MaxTime + 1 {
				list := impl.SlidingOf(time, size, slide)
				expect(t, "SlidingOf", list, slidingSlowly(time, size, slide))
				for i, w := range list {
					expectTrue(t, "a sliding window has the time", impl.WindowHas(w, time))
					expectIs(t, "the size of a sliding window", w.End-w.Start, size)
					expectTrue(t, "each begins one slide behind the one before", i == 0 || w.Start == list[i-1].Start+slide)
				}
			}
		}
	}
}

func TestSlidingOfAtLimits(t *testing.T) {
	expectIs(t, "MaxOverlap", impl.MaxOverlap, 10)
	expect(t, "SlidingOf before time 0", impl.SlidingOf(0, 6, 2), []impl.Window{win(-4, 2), win(-2, 4), win(0, 6)})
	expect(t, "SlidingOf of a size that is no multiple", impl.SlidingOf(3, 7, 3), []impl.Window{win(-3, 4), win(0, 7), win(3, 10)})
	expect(t, "SlidingOf between windows", impl.SlidingOf(2, 7, 3), []impl.Window{win(-3, 4), win(0, 7)})
	for _, slide := range []int{1, 2, 50, 99} {
		list := impl.SlidingOf(500, impl.MaxOverlap*slide, slide)
		expectIs(t, "the number of windows with the greatest overlap", len(list), impl.MaxOverlap)
		expect(t, "SlidingOf with more overlap", impl.SlidingOf(500, impl.MaxOverlap*slide+1, slide), nil)
	}
	expectIs(t, "the number of the longest windows", len(impl.SlidingOf(950, 999, 100)), impl.MaxOverlap)
	expect(t, "SlidingOf of long windows with a short slide", impl.SlidingOf(950, 999, 99), nil)
}

func TestSlidingOfInvalidArguments(t *testing.T) {
	for _, time := range badTimes() {
		expect(t, "SlidingOf of an invalid time", impl.SlidingOf(time, 6, 3), nil)
	}
	for _, size := range badSizes() {
		for _, slide := range []int{-1, 0, 1, 100, 999, 1000, size} {
			expect(t, "SlidingOf with an invalid size", impl.SlidingOf(7, size, slide), nil)
		}
	}
	for _, size := range sizes() {
		for _, slide := range joined(extremes, []int{-1, 0, size + 1, -size}) {
			expect(t, "SlidingOf with an invalid slide", impl.SlidingOf(7, size, slide), nil)
		}
	}
}

func TestP29TumblingWindowsAreSlidingOnes(t *testing.T) {
	for size := 1; size <= impl.MaxTime; size++ {
		for time := size % 7; time <= impl.MaxTime; time += 7 {
			w, _ := impl.TumblingOf(time, size, 0)
			expect(t, "SlidingOf with the size as slide", impl.SlidingOf(time, size, size), []impl.Window{w})
		}
	}
}

func TestP30WindowsAreRangesOfTimes(t *testing.T) {
	r := source(51)
	list := edgeWindows()
	for range rounds {
		list = append(list, someWindow(r))
	}
	for _, w := range list {
		got := []bool{impl.WindowHas(w, w.Start), impl.WindowHas(w, w.End-1), impl.WindowHas(w, w.End), impl.WindowHas(w, w.Start-1)}
		expect(t, "WindowHas at the ends of a window", got, []bool{true, true, false, false})
		for range 20 {
			time := between(r, -1200, lastEnd+200)
			expectIs(t, "WindowHas", impl.WindowHas(w, time), time >= w.Start && time < w.End)
		}
		for _, time := range extremes {
			expectTrue(t, "no window has an extreme time", !impl.WindowHas(w, time))
		}
	}
	for _, w := range badWindows() {
		for _, time := range []int{w.Start, w.Start + 1, w.End - 1, -1, 0, 4, 5, impl.MaxTime + 1, lastEnd} {
			expectTrue(t, "no invalid window has a time", !impl.WindowHas(w, time))
		}
	}
}

// mergeWindowsSlowly returns what MergeWindows should: the longest ranges of times that windows have.
func mergeWindowsSlowly(list []impl.Window) []impl.Window {
	var has [4 * impl.MaxTime]bool
	for _, w := range list {
		for time := w.Start; time < w.End; time++ {
			has[time+impl.MaxTime] = true
		}
	}
	var out []impl.Window
	for i, yes := range has {
		time := i - impl.MaxTime
		if yes && (i == 0 || !has[i-1]) {
			out = append(out, win(time, time))
		}
		if yes {
			out[len(out)-1].End = time + 1
		}
	}
	return out
}

func TestP31MergedWindowsAreApart(t *testing.T) {
	r := source(52)
	apart := 0
	for range rounds * 3 {
		list := someWindows(r)
		merged := impl.MergeWindows(list)
		expect(t, "MergeWindows", merged, mergeWindowsSlowly(list))
		expect(t, "MergeWindows of its result", impl.MergeWindows(merged), merged)
		for i := 1; i < len(merged); i++ {
			expectTrue(t, "no window begins before or at the end of another one", merged[i-1].End < merged[i].Start)
			apart++
		}
		for _, w := range list {
			inside := slices.ContainsFunc(merged, func(m impl.Window) bool { return m.Start <= w.Start && w.End <= m.End })
			expectTrue(t, "every window is inside a merged one", inside)
		}
	}
	expectTrue(t, "some windows are apart", apart > rounds)
}

func TestMergeWindowsAtLimits(t *testing.T) {
	expect(t, "MergeWindows of no windows", impl.MergeWindows(nil), nil)
	expect(t, "MergeWindows of windows that meet", impl.MergeWindows([]impl.Window{win(3, 5), win(0, 3)}), []impl.Window{win(0, 5)})
	expect(t, "MergeWindows of windows one apart", impl.MergeWindows([]impl.Window{win(4, 5), win(0, 3)}), []impl.Window{win(0, 3), win(4, 5)})
	expect(t, "MergeWindows of a window in another one", impl.MergeWindows([]impl.Window{win(2, 3), win(0, 9), win(8, 9)}), []impl.Window{win(0, 9)})
	expect(t, "MergeWindows of windows at the limits", impl.MergeWindows(edgeWindows()), []impl.Window{win(-impl.MaxTime, lastEnd)})
	expect(t, "MergeWindows before time 0", impl.MergeWindows([]impl.Window{win(-2, -1), win(-9, -4), win(-4, -3)}), []impl.Window{win(-9, -3), win(-2, -1)})
	many := make([]impl.Window, impl.MaxEvents)
	for i := range many {
		many[i] = win(2*i, 2*i+1)
	}
	expect(t, "MergeWindows of MaxEvents windows", impl.MergeWindows(reversed(many)), many)
	expect(t, "ClosedWindows of MaxEvents windows", impl.ClosedWindows(many, 2), []int{0, 1})
}

func TestP32TheOrderOfWindowsDoesNotMatter(t *testing.T) {
	r := source(53)
	for range rounds {
		list := someWindows(r)
		expect(t, "MergeWindows in reverse order", impl.MergeWindows(reversed(list)), impl.MergeWindows(list))
	}
}

func TestP33ClosedWindowsStayClosed(t *testing.T) {
	r := source(54)
	found := 0
	for range rounds * 3 {
		list := someWindows(r)
		mark := oneOf(r, -1, between(r, -1, 60), between(r, -1, lastEnd), lastEnd)
		closed := impl.ClosedWindows(list, mark)
		var want []int
		for i, w := range list {
			if w.End <= mark+1 {
				want = append(want, i)
			}
		}
		expect(t, "ClosedWindows", closed, want)
		found += len(closed)
		later := impl.ClosedWindows(list, between(r, mark, lastEnd))
		for _, i := range closed {
			expectTrue(t, "a closed window stays closed", slices.Contains(later, i))
			expectTrue(t, "a closed window has no time behind the watermark", !impl.WindowHas(list[i], mark+1))
		}
	}
	expectTrue(t, "some windows are closed", found > rounds)
}

func TestClosedWindowsAtLimits(t *testing.T) {
	list := []impl.Window{win(0, 1), win(-1, 0), win(-9, -3), win(999, lastEnd), win(0, lastEnd-1), win(0, 2)}
	expect(t, "ClosedWindows at -1", impl.ClosedWindows(list, -1), []int{1, 2})
	expect(t, "ClosedWindows at 0", impl.ClosedWindows(list, 0), []int{0, 1, 2})
	expect(t, "ClosedWindows before the last time", impl.ClosedWindows(list, lastEnd-2), []int{0, 1, 2, 4, 5})
	expect(t, "ClosedWindows at the last time", impl.ClosedWindows(list, lastEnd-1), []int{0, 1, 2, 3, 4, 5})
	expect(t, "ClosedWindows at the greatest watermark", impl.ClosedWindows(list, lastEnd), []int{0, 1, 2, 3, 4, 5})
	for _, mark := range joined(extremes, []int{-2, -3, lastEnd + 1, impl.MaxReach}) {
		expect(t, "ClosedWindows at an invalid watermark", impl.ClosedWindows(list, mark), nil)
	}
}

func TestFunctionsOfInvalidWindows(t *testing.T) {
	for _, bad := range badWindowLists() {
		expect(t, "MergeWindows of invalid windows", impl.MergeWindows(bad), nil)
		expect(t, "ClosedWindows of invalid windows", impl.ClosedWindows(bad, lastEnd), nil)
	}
	for _, w := range edgeWindows() {
		expect(t, "MergeWindows of a window at the limits", impl.MergeWindows([]impl.Window{w}), []impl.Window{w})
	}
}

func TestWindowsKeepArguments(t *testing.T) {
	r := source(55)
	for range rounds {
		g := guarded(someWindows(r), win(77, 78))
		spoil(impl.MergeWindows(g.list), win(-5, -5))
		spoil(impl.ClosedWindows(g.list, 30), -5)
		g.check(t, "a function of windows")
		time := between(r, 0, impl.MaxTime)
		spoil(impl.SlidingOf(time, 6, 2), win(-5, -5))
		expect(t, "SlidingOf once more", impl.SlidingOf(time, 6, 2), slidingSlowly(time, 6, 2))
	}
}
